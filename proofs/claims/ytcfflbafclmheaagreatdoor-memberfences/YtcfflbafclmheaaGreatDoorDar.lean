/-
  Texts of the walks of member, shortened.
-/
import Derived.Test.YtcfflbafclmheaaGreatDoorDaq
import Derived.Test.YtcfflbafclmheaaGreatDoorDad
import Derived.Test.YtcfflbafclmheaaGreatDoorDab
set_option maxRecDepth 100000
set_option maxHeartbeats 100000000
set_option linter.unusedSimpArgs false
namespace Go.Proofs.YtcfflbafclmheaaGreatDoor
open Go.RowKit
open Le (Mm Qh Qo)
theorem ent88:Ent 88:=fun _ _=>by kernel_rfl
theorem ent89:Ent 89:=fun _ _=>by kernel_rfl
theorem ent90:Ent 90:=fun _ _=>by kernel_rfl
theorem ent91:Ent 91:=fun _ _=>by kernel_rfl
theorem do88 (c0:Nat) (v:Vi.Vw) (w:World) (C0:Blk w c0 29 (Vi.vwC v)):Calls Tryz.prog 88 #[P0 c0] w fun r w'=>r= .returned (.bool (!v.op))∧Kept [] w w':=by
 have q0:w.cell? ⟨c0,1,none⟩=some (.bool v.op):=Qb C0 1 _ rfl;clear C0;go_enter Tryz.func88,Tryz.ntmps88
 go_wp2
 go_ret
 exact⟨QB (by simp),Kept.refl _ _⟩
theorem do89 (c0 c1 c2:Nat) (v:Vi.Vw) (n ep:Int) (w:World) (hF:Vi.First w) (hv:v.ms.length=8) (C0:Blk w c0 29 (Vi.vwC v)) (C1:Blk w c1 3 [.int .i64 n]) (C2:Blk w c2 2 [.int .i64 ep]):Calls Tryz.prog 89 #[P0 c0,P0 c1,P0 c2] w fun r w'=>r= .returned (.bool (decide (v.fd=n)&&v.is n ep))∧Kept [] w w':=by
 have q0:w.cell? ⟨c0,2,none⟩=some (.int .i64 v.fd):=Qb C0 2 _ rfl;have q1:=Qb C1 0 _ rfl;have q2:=Qb C2 0 _ rfl;have P:=hide (Vi.is25 v n ep w hF hv);have HL:=hide (Vi.Qk hv);have HC0:=hide C0;clear C0 C1 C2 hF hv;by_cases h:v.fd=n
 · have hd:(v.fd == n)=true:=by simpa using h
   have H:=hide h;clear h;go_enter Tryz.func89,Tryz.ntmps89
   go_wp2_with (first |(refine Vi.Zb Vi.Qn (.tmp 0) rfl rfl c0 0 rfl (Vi.vwC v) (Qa HL) (Qa HC0).range ?_;refine Stp.go ?_))
   constructor
   go_wp2_with (first |(go_at_call 82;refine(Qa P).mono ?_;rintro e W ⟨rfl,K1⟩;have HK:=hide K1;clear K1))
   go_ret
   exact⟨QB (by simp [Qa H]),Qa HK⟩
 · have hd:(v.fd == n)=false:=by simpa using h
   go_enter Tryz.func89,Tryz.ntmps89
   go_wp2_with fail
   go_ret
   exact⟨QB (by simp [h]),Kept.refl _ _⟩
theorem do90 (c0 c1 c2:Nat) (ao:Option Addr) (o:Option Dv.Dev) (j:Job) (v:Vi.Vw) (w:World) (hF:Vi.First w) (hv:v.ms.length=8) (C0:Blk w c0 32 [.pointer ao]) (C1:Blk w c1 23 (Qf j)) (C2:Blk w c2 29 (Vi.vwC v)) (h:Dq w (.pointer ao) o):Calls Tryz.prog 90 #[P0 c0,P0 c1,P0 c2] w fun r w'=>r= .returned (.bool (mall o j v))∧Kept [] w w':=by
 have q0:=Qb C0 0 _ rfl;have P:=hide (all19 (.pointer ao) o j v w h hF hv);have HL:=hide (Vi.Qk hv);have HC1:=hide C1;have HC2:=hide C2;clear C0 C1 C2 hF hv h;go_enter Tryz.func90,Tryz.ntmps90
 go_wp2_with (first |(refine Qg Zv rfl (.tmp 1) rfl c1 0 rfl (Qf j) rfl (Qa HC1).range ?_;refine Stp.go ?_))
 constructor
 go_wp2_with (first |(refine Qg Vi.Qn rfl (.tmp 2) rfl c2 0 rfl (Vi.vwC v) (Qa HL) (Qa HC2).range ?_;refine Stp.go ?_))
 constructor
 go_wp2_with (first |(go_at_call 19;refine(Qa P).mono ?_;rintro e W ⟨rfl,K1⟩;have HK:=hide K1;clear K1))
 go_ret
 exact⟨rfl,Qa HK⟩
theorem do91 (c0 c3:Nat) (v z:Vi.Vw) (w:World) (hF:Vi.First w) (hv:v.Ok) (hz:z.ms.length=8) (C0:Blk w c0 29 (Vi.vwC v)) (C3:Blk w c3 29 (Vi.vwC z)):Calls Tryz.prog 91 #[P0 c0,P0 c3] w fun r w'=>r= .returned (.int .i64 (Vi.openV v).2)∧Blk w' c3 29 (Vi.vwC (Vi.openV v).1)∧Kept [c3] w w':=by
 have PO:=hide (Vi.opened20 v w hF hv);have hl:=Vi.Qk (openV_ok hv).len;have HL:=hide (Vi.Qk hv.len);have HZ:=hide (Vi.Qk hz);have HC0:=hide C0;obtain⟨⟨u,uc⟩,hu⟩:∃r,Vi.openV v=r:=⟨_,rfl⟩;rw [hu] at PO hl⊢;have HU:=hide hl;have M:Hid (Mm [c3] w w [(c3,29,Vi.vwC z)]):=hide (Le.Mm.one C3);clear C0 C3 hF hv hz hl hu;go_enter Tryz.func91,Tryz.ntmps91
 go_wp2_with (first |(refine Qg Vi.Qn rfl (.tmp 0) rfl c0 0 rfl (Vi.vwC v) (Qa HL) (Qa HC0).range ?_;refine Stp.go ?_))
 constructor
 go_wp2_with (first |(go_at_call 92;refine(Qa PO).mono ?_;rintro e W1 ⟨rfl,K1⟩;replace M:=hide ((Qa M).step K1);clear K1;refine Stp.go ?_))
 constructor
 go_wp2_with (first |(refine Qh Vi.Qn rfl (.tmp 1) (.tmp 6) rfl rfl c3 0 (Vi.vwC u) rfl rfl (Qa HU) (Vi.Ql _) (Qa M) rfl (Qa HZ) ?_;intro W2 N2;replace M:Hid (Mm [c3] w W2 [(c3,29,Vi.vwC u)]):=hide N2;clear N2;refine Stp.go ?_))
 constructor
 go_wp2_with fail
 go_ret
 exact⟨rfl,(Qa M).at 0 _ rfl,(Qa M).kept⟩
def opQ (D:Dv.Dev) (j:Job) (v:Vi.Vw) (n ep:Int):List Int:= [qa (!v.op) 7,qa (decide (v.fd=n)&&v.is n ep) 6,qa (mall (some D) j v) 11]
def mopn (D:Dv.Dev) (j:Job) (v:Vi.Vw) (n ep:Int):Vi.Vw×Int:=if first0 (opQ D j v n ep)=0 then Vi.openV v else (Vi.zv,first0 (opQ D j v n ep))
theorem mopn_ok {D:Dv.Dev} {v:Vi.Vw} (hv:v.Ok) (j:Job) (n ep:Int):(mopn D j v n ep).1.Ok:=by
 unfold mopn;split
 · exact openV_ok hv
 · exact Vi.zv_ok
theorem told87 (bq b1 b2:Nat) (D:Dv.Dev) (j:Job) (v:Vi.Vw) (n ep:Int) (L:List (Value×Int)) (W0:World) (hF:Vi.First W0) (hv:v.Ok) (hL3:L.length=3) (hs:L.map Prod.snd=opQ D j v n ep) (hq:∀p∈L,ZP W0 p.1 p.2) (BQ:Blk W0 bq 92 (L.map Prod.fst++ [fnV 91 #[P0 b1,P0 b2]])) (B1:Blk W0 b1 29 (Vi.vwC v)) (B2:Blk W0 b2 29 (Vi.vwC Vi.zv)):
   Calls Tryz.prog 67 #[.slice (some ⟨bq,0,none⟩) 4 4] W0 fun e W'=>∃x,e= .returned (.int .i64 x)∧Kept [b2] W0 W'∧Blk W' b2 29 (Vi.vwC (mopn D j v n ep).1)∧x=(mopn D j v n ep).2:=by
 have tq:=Blk.apart BQ B2 (by decide);obtain⟨qs,e,hqs⟩:=ques_list L hq;have hql:qs.length=3:=by
   have:=congrArg List.length e;simp at this;omega
 rw [hs] at hqs;refine told67 bq 4 4 (qs++ [(91,#[P0 b1,P0 b2])]) W0 (by simp [hql]) (by omega)
   (fun k W=>if k≤3 then (Kept [] W0 W∧∀y∈(opQ D j v n ep).take k,y=0) else (Kept [b2] W0 W∧Blk W b2 29 (Vi.vwC (mopn D j v n ep).1)∧(mopn D j v n ep).2=0))
   (fun x W'=>Kept [b2] W0 W'∧Blk W' b2 29 (Vi.vwC (mopn D j v n ep).1)∧x=(mopn D j v n ep).2) (by rw [if_pos (by omega)];exact⟨Kept.refl _ _,by simp⟩) ?_ ?_ ?_
 · intro k W hI;have hR:Rg W0 bq ((qs++ [(91,#[P0 b1,P0 b2])]).map (fun q:FuncId×Array Value=>fnV q.1 q.2)):=by
     rw [List.map_append,← e];exact Rg.of BQ
   by_cases h4:k≤3
   · rw [if_pos h4] at hI;exact hR.kept hI.1 (by simp)
   · rw [if_neg h4] at hI;exact hR.kept hI.1 (by simpa using tq)
 · intro k f cs W hk hI;by_cases h4:k<3
   · rw [if_pos (by omega)] at hI;rw [List.getElem?_append_left (by omega)] at hk;obtain⟨x,hx,hent,hcl⟩:=hqs k f cs hk;obtain⟨hW,h0⟩:=hI;refine⟨hent,(hcl W (K92.of hW)).mono ?_⟩;rintro e W' ⟨rfl,hk'⟩;refine⟨x,rfl,?_⟩;by_cases hz:x=0
     · refine .inl ⟨hz,?_⟩;rw [if_pos (by omega)];refine⟨hW.trans hk',fun y hy=> ?_⟩;rw [List.take_add_one,hx] at hy;rcases List.mem_append.1 hy with hy | hy
       · exact h0 y hy
       · simp at hy;omega
     · have hf:=first0_at _ k x h0 hx hz;have e:mopn D j v n ep=(Vi.zv,x):=by unfold mopn;rw [hf,if_neg hz]
       have hk2:=hW.trans hk';exact .inr ⟨hz,hk2.mono (by simp),by rw [e];exact B2.kept hk2 (by simp),by rw [e]⟩
   · by_cases h44:k=3
     · subst h44;rw [if_pos (by omega)] at hI;rw [List.getElem?_append_right (by omega),hql] at hk;simp at hk;obtain⟨rfl,rfl⟩:=hk;obtain⟨hW,h0⟩:=hI;have hf:first0 (opQ D j v n ep)=0:=first0_all _ (fun y hy=>h0 y (by rw [List.take_of_length_le (by simp [opQ])];exact hy));have e:mopn D j v n ep=Vi.openV v:=by unfold mopn;rw [if_pos hf]
       refine⟨ent91,(do91 b1 b2 v Vi.zv W (hF.kept hW) hv rfl (B1.kept hW (by simp)) (B2.kept hW (by simp))).mono ?_⟩;rintro e2 W' ⟨rfl,hb,hk'⟩;have hk2:Kept [b2] W0 W':=(hW.mono (by simp)).trans hk';refine⟨_,rfl,?_⟩;by_cases hp:(Vi.openV v).2=0
       · refine .inl ⟨hp,?_⟩;rw [if_neg (by omega),e];exact⟨hk2,hb,hp⟩
       · exact .inr ⟨hp,hk2,by rw [e];exact hb,by rw [e]⟩
     · rw [List.getElem?_eq_none (by simp [hql];omega)] at hk;cases hk
 · intro W hI;rw [if_neg (by omega)] at hI;exact⟨hI.1,hI.2.1,hI.2.2.symm⟩
theorem res87 (w:World) (z:Nat) (vs:List Value) (e:Int) (tmps:Array Value) (h4:tmps[6]?.getD undef=P0 z) (h5:tmps[7]?.getD undef= .int .i64 e) (hl:vs.length=19) (hb:Blk w z 29 vs):(results Tryz.f87 tmps).run Tryz.prog w= .ok (.tuple #[Qd vs,.int .i64 e]) w:=by
 have h1:=Zq Vi.Qn hl hb;simp [results,Tryz.results87,h4,h5,h1,asAddr]
theorem do87 (c1 c2 c3 c4 b g:Nat) (D:Dv.Dev) (j:Job) (v:Vi.Vw) (n ep:Int) (w:World) (hF:Vi.First w) (hv:v.Ok) (C1:Blk w c1 3 [.int .i64 n]) (C2:Blk w c2 2 [.int .i64 ep]) (C3:Blk w c3 32 [P0 b]) (C4:Blk w c4 23 (Qf j)) (h:Dv.Dv w b g D):
  Calls Tryz.prog 87 #[Qd (Vi.vwC v),P0 c1,P0 c2,P0 c3,P0 c4] w fun e w'=>e= .returned (.tuple #[Qd (Vi.vwC (mopn D j v n ep).1),.int .i64 (mopn D j v n ep).2])∧Kept [] w w':=by
 have PA:∀W b1,Kept [] w W→Blk W b1 29 (Vi.vwC v)→Hid (Calls Tryz.prog 78 #[.int .i64 7,fnV 88 #[P0 b1]] W fun r w'=>∃q,r= .returned q∧ZP w' q (qa (!v.op) 7)∧Kept [] W w'):=fun W b1 hW B1=>hide (unless_q 7 88 _ (!v.op) W ent88 (fun V hV=>do88 b1 v V (B1.k92 hV (by decide))));have PB:∀W b1,Kept [] w W→Blk W b1 29 (Vi.vwC v)→Hid (Calls Tryz.prog 78 #[.int .i64 6,fnV 89 #[P0 b1,P0 c1,P0 c2]] W fun r w'=>∃q,r= .returned q∧ZP w' q (qa (decide (v.fd=n)&&v.is n ep) 6)∧Kept [] W w'):=fun W b1 hW B1=>hide (unless_q 6 89 _ (decide (v.fd=n)&&v.is n ep) W ent89 (fun V hV=>do89 b1 c1 c2 v n ep V ((hF.kept hW).k92 hV) hv.len (B1.k92 hV (by decide)) ((C1.kept hW (by simp)).k92 hV (by decide)) ((C2.kept hW (by simp)).k92 hV (by decide))));have PC:∀W b1,Kept [] w W→Blk W b1 29 (Vi.vwC v)→Hid (Calls Tryz.prog 78 #[.int .i64 11,fnV 90 #[P0 c3,P0 c4,P0 b1]] W fun r w'=>∃q,r= .returned q∧ZP w' q (qa (mall (some D) j v) 11)∧Kept [] W w'):=fun W b1 hW B1=>hide (unless_q 11 90 _ (mall (some D) j v) W ent90 (fun V hV=>do90 c3 c4 b1 (some ⟨b,0,none⟩) (some D) j v V ((hF.kept hW).k92 hV) hv.len ((C3.kept hW (by simp)).k92 hV (by decide)) ((C4.kept hW (by simp)).k92 hV (by decide)) (B1.k92 hV (by decide)) ⟨b,g,rfl,dv92 (h.kept hW (by simp) (by simp)) hV⟩));have PT:∀W bq b1 b2 f0 cs0 f1 cs1 f2 cs2,Mm [] w W [(b1,29,Vi.vwC v),(b2,29,Vi.vwC Vi.zv),(bq,92,[fnV f0 cs0,fnV f1 cs1,fnV f2 cs2,fnV 91 #[P0 b1,P0 b2]])]→ZP W (fnV f0 cs0) (qa (!v.op) 7)→ZP W (fnV f1 cs1) (qa (decide (v.fd=n)&&v.is n ep) 6)→ZP W (fnV f2 cs2) (qa (mall (some D) j v) 11)→Hid (Calls Tryz.prog 67 #[.slice (some ⟨bq,0,none⟩) 4 4] W fun e W'=>∃x,e= .returned (.int .i64 x)∧Kept [b2] W W'∧Blk W' b2 29 (Vi.vwC (mopn D j v n ep).1)∧x=(mopn D j v n ep).2):=fun W bq b1 b2 f0 cs0 f1 cs1 f2 cs2 hM h0 h1 h2=>hide (by
  refine told87 bq b1 b2 D j v n ep [(fnV f0 cs0,qa (!v.op) 7),(fnV f1 cs1,qa (decide (v.fd=n)&&v.is n ep) 6),(fnV f2 cs2,qa (mall (some D) j v) 11)] W (hF.kept hM.kept) hv rfl rfl ?_ (hM.at 2 _ rfl) (hM.at 0 _ rfl) (hM.at 1 _ rfl);intro q hq;rcases List.mem_cons.1 hq with e | hq
  · rw [e];exact h0
  · rcases List.mem_cons.1 hq with e | hq
    · rw [e];exact h1
    · rw [List.mem_singleton.1 hq];exact h2)
 have hok:=mopn_ok (D:=D) hv j n ep;have hm:=hmf;obtain⟨⟨u,uc⟩,hu⟩:∃r,mopn D j v n ep=r:=⟨_,rfl⟩;rw [hu] at PT hok⊢;have HU:=hide (Vi.Qk hok.len);clear C1 C2 C3 C4 hF hv h hu hok;have M:Hid (Mm [] w w []):=hide Mm.init;go_enter Tryz.func87,Tryz.ntmps87
 go_wp2_with (first |(refine Qp rfl (.tmp 0) rfl (Vi.vwC v) rfl ?_;intro W1 b1 e1 B1 K1;replace M:=hide ((Qa M).new e1 B1 K1);clear e1 B1 K1;refine Stp.go ?_))
 constructor
 go_wp2_with (first |(refine Qv (Vi.vwC Vi.zv) Vi.QE 6 rfl rfl rfl ?_;intro W2 b2 e2 B2 K2;replace M:=hide ((Qa M).new e2 B2 K2);clear e2 B2 K2;refine Stp.go ?_))
 constructor
 go_wp2_with (first |(go_at_call 78;refine(Qa (PA _ b1 (Qa M).kept ((Qa M).at 0 _ rfl))).mono ?_;rintro e W3 ⟨q,rfl,hq,K3⟩;obtain⟨f0,cs0,hq0⟩:∃f0 cs0,q=fnV f0 cs0:=(by obtain⟨f0,cs0,e,-⟩:=hq;exact⟨f0,cs0,e⟩);subst hq0;have HQ0:=hide hq;replace M:=hide ((Qa M).step K3);clear K3 hq PA;refine Stp.go ?_))
 constructor
 go_wp2_with (first |(go_at_call 78;refine(Qa (PB _ b1 (Qa M).kept ((Qa M).at 0 _ rfl))).mono ?_;rintro e W4 ⟨q,rfl,hq,K4⟩;obtain⟨f1,cs1,hq0⟩:∃f0 cs0,q=fnV f0 cs0:=(by obtain⟨f0,cs0,e,-⟩:=hq;exact⟨f0,cs0,e⟩);subst hq0;have HQ1:=hide hq;replace HQ0:=hide ((Qa HQ0).mono K4);replace M:=hide ((Qa M).step K4);clear K4 hq PB;refine Stp.go ?_))
 constructor
 go_wp2_with (first |(go_at_call 78;refine(Qa (PC _ b1 (Qa M).kept ((Qa M).at 0 _ rfl))).mono ?_;rintro e W5 ⟨q,rfl,hq,K5⟩;obtain⟨f2,cs2,hq0⟩:∃f0 cs0,q=fnV f0 cs0:=(by obtain⟨f0,cs0,e,-⟩:=hq;exact⟨f0,cs0,e⟩);subst hq0;have HQ2:=hide hq;replace HQ0:=hide ((Qa HQ0).mono K5);replace HQ1:=hide ((Qa HQ1).mono K5);replace M:=hide ((Qa M).step K5);clear K5 hq PC;refine Stp.go ?_))
 constructor
 go_wp2_with (first |(refine wpBs4F rfl (.tmp 9) (.tmp 11) (.tmp 13) (.tmp 14) rfl f0 f1 f2 91 cs0 cs1 cs2 #[P0 b1,P0 b2] rfl rfl rfl rfl ?_;intro W6 b6 e6 B6 K6;replace HQ0:=hide ((Qa HQ0).mono K6);replace HQ1:=hide ((Qa HQ1).mono K6);replace HQ2:=hide ((Qa HQ2).mono K6);replace M:=hide ((Qa M).new e6 B6 K6);clear e6 B6 K6;refine Stp.go ?_))
 constructor
 have HB2:Hid (w.heap.size≤b2):=mm_new (Qa M) (b2,29,Vi.vwC Vi.zv) (by simp);go_wp2_with (first |(go_at_call 67;refine(Qa (PT _ b6 b1 b2 f0 cs0 f1 cs1 f2 cs2 (Qa M) (Qa HQ0) (Qa HQ1) (Qa HQ2))).mono ?_;rintro e V ⟨x,rfl,kd,hb,hx⟩;subst hx;refine Stp.go ?_))
 constructor
 have HK:Hid (Kept [] w V):=(Qa M).kept.upNew kd (by simpa using Qa HB2);replace M:Hid (Mm [b2] V V [(b2,29,Vi.vwC u)]):=hide (Le.Mm.one hb);clear kd hb HQ0 HQ1 HQ2 PT;go_wp2_with (first |(refine Qg Vi.Qn rfl (.tmp 6) rfl b2 0 rfl (Vi.vwC u) (Qa HU) ((Qa M).at 0 _ rfl).range ?_;refine Stp.go ?_))
 constructor
 go_wp2_with (first |(refine Qh Vi.Qn rfl (.tmp 6) (.tmp 17) rfl rfl b2 0 (Vi.vwC u) rfl rfl (Qa HU) (Vi.Ql _) (Qa M) rfl (Qa HU) ?_;intro W11 N11;replace M:Hid (Mm [b2] V W11 [(b2,29,Vi.vwC u)]):=hide N11;clear N11;refine Stp.go ?_))
 constructor
 go_wp2_with fail
 refine bodyPost_ret (res87 _ b2 _ _ _ rfl rfl (Qa HU) ((Qa M).at 0 _ rfl)) rfl ?_;exact⟨rfl,(Qa HK).upNew (Qa M).kept (by simpa using Qa HB2)⟩
def mopen (D:Dv.Dev) (j:Job) (n ep:Int):(Vi.Vw×Bool)×Int×Dv.Dev:=mcall D j n ep [] (mopn D j (oV D).1 n ep,D)
theorem open34 (b g:Nat) (D:Dv.Dev) (j:Job) (n ep:Int) (w:World) (h:Dv.Dv w b g D) (hF:Vi.First w):
  Calls Tryz.prog 34 #[P0 b,Qd (Qf j),.int .i64 n,.int .i64 ep] w fun e w'=>e= .returned (.tuple #[Qd (Vi.vwC (mopen D j n ep).1.1),.bool (mopen D j n ep).1.2,.int .i64 (mopen D j n ep).2.1])∧Kept [b,g] w w'∧Dv.Dv w' b g (mopen D j n ep).2.2:=by
 have hlt:=h.lt;have hok:=mopn_ok (D:=D) (oV_ok h) j n ep;refine openW (some ⟨b,0,none⟩) (some D) j n ep w hF.lt ⟨b,g,rfl,h⟩ [b,g] (mopen D j n ep).1 (mopen D j n ep).2.1 (fun V=>Dv.Dv V b g (mopen D j n ep).2.2) (by simp;omega) (dv_stay hlt) (mcall_len h _ _ _ _ _ hok.len) ?_;intro W v base L c0 c1 c2 c3 hW hL hs C0 C1 C2 C3;refine chg_dev b g D j n ep [] (mopn D j (oV D).1 n ep,D) v 87 _ W base L hL hs (by simp) (h.kept hW (by simp) (by simp)) (hF.kept hW) hok ent87 ?_;intro _ _ V hV;have hwV:=hW.trans hV;refine(do87 c0 c1 c2 c3 b g D j (oV D).1 n ep V (hF.kept hwV) (oV_ok h) (C0.kept hV (by simp)) (C1.kept hV (by simp)) (C2.kept hV (by simp)) (C3.kept hV (by simp)) (h.kept hwV (by simp) (by simp))).mono ?_;rintro e V' ⟨rfl,hk⟩;exact⟨rfl,h.kept (hwV.trans hk) (by simp) (by simp),hk.mono (by simp)⟩
open Go.RowKit
open Le (Mm Qh Qo)
theorem rhead47 (J:Ar.Job) (n:Int) (hm:J.may=true) (hn:0≤n∧n≤8) (w:World):Calls Tryz.prog 117 #[Qd (Ar.Qf J),.int .i64 n] w fun e w'=>e= .returned (.int .i64 (9+n*(1+2*J.l)))∧Kept [] w w':=by
 simp only [Ar.Job.may,decide_eq_true_eq] at hm;have hl1:2≤J.l:=by omega
 have hl2:J.l≤64:=by omega
 have h1:n*(1+2*J.l)≤8*129:=Int.mul_le_mul (by omega) (by omega) (by omega) (by omega);have h2:0≤n*(1+2*J.l):=Int.mul_nonneg (by omega) (by omega);clear hm hn;go_enter Tryz.func117,Tryz.ntmps117
 go_wp2_with (first |(refine Qp (by rfl) (.tmp 0) (by rfl) (Ar.Qf J) (by kernel_rfl) ?_;intro W1 t2 e2 B2 K2;have H2:=hide B2;have HK:=hide K2;have hc0:=Qb B2 0 (.int .i64 J.n) rfl;have hc1:=Qb B2 1 (.int .i64 J.p) rfl;have hc3:=Qb B2 3 (.int .i64 J.l) rfl;clear e2 B2 K2))
 go_ret
 exact⟨rfl,Qa HK⟩
theorem rpage43 (J:Ar.Job) (p:Int) (hm:J.may=true) (hp:0≤p∧p≤16) (w:World):Calls Tryz.prog 60 #[Qd (Ar.Qf J),.int .i64 p] w fun e w'=>e= .returned (.int .i64 (9+J.n*(1+2*J.l)+2*p))∧Kept [] w w':=by
 have P47:=hide (fun W=>rhead47 J J.n hm (by simp only [Ar.Job.may,decide_eq_true_eq] at hm;omega) W);simp only [Ar.Job.may,decide_eq_true_eq] at hm;obtain⟨q,hq⟩:∃q,q=9+J.n*(1+2*J.l):=⟨_,rfl⟩;have h1:J.n*(1+2*J.l)≤8*129:=Int.mul_le_mul (by omega) (by omega) (by omega) (by omega);have h2:0≤J.n*(1+2*J.l):=Int.mul_nonneg (by omega) (by omega);rw [← hq] at P47;rw [← hq];have hq1:0≤q:=by omega
 have hq2:q≤2000:=by omega
 have hp1:=hp.1;have hp2:=hp.2;have HJL:Hid ((Ar.Qf J).length=5):=rfl;clear hm h1 h2 hq hp;go_enter Tryz.func60,Tryz.ntmps60
 go_wp2_with (first |(refine Qp (by rfl) (.tmp 0) (by rfl) (Ar.Qf J) (by kernel_rfl) ?_;intro W1 t2 e2 B2 K2;have H2:=hide B2;have HK:=hide K2;have hc0:=Qb B2 0 (.int .i64 J.n) rfl;have hc1:=Qb B2 1 (.int .i64 J.p) rfl;have hc3:=Qb B2 3 (.int .i64 J.l) rfl;clear e2 B2 K2;refine Stp.go ?_))
 constructor
 go_wp2_with (first |(refine Qg Zv (by rfl) (.tmp 2) (by rfl) t2 0 (by kernel_rfl) (Ar.Qf J) (Qa HJL) (Qa H2).range ?_;refine Stp.go ?_))
 constructor
 go_wp2_with (first |(go_at_call 117;refine(Qa P47 _).mono ?_;rintro e W3 ⟨rfl,K3⟩;replace HK:=hide ((Qa HK).trans K3);clear K3))
 go_ret
 exact⟨rfl,Qa HK⟩
theorem rsect25 (J:Ar.Job) (hm:J.may=true) (w:World):Calls Tryz.prog 25 #[Qd (Ar.Qf J)] w fun e w'=>e= .returned (.int .i64 J.sectors.1)∧Kept [] w w':=by
 have P43:=hide (fun W=>rpage43 J J.p hm (by simp only [Ar.Job.may,decide_eq_true_eq] at hm;omega) W);have e9:9+J.n*(1+2*J.l)+2*J.p=J.sectors.1:=by
  unfold Ar.Job.sectors Ar.Job.L;rw [if_pos hm];show _=J.p*2+(J.n*(1+2*J.l)+9);omega
 rw [e9] at P43;obtain⟨q,hq⟩:∃q,q=J.sectors.1:=⟨_,rfl⟩;rw [← hq] at P43;rw [← hq];have HJL:Hid ((Ar.Qf J).length=5):=rfl;clear hm hq e9;go_enter Tryz.func25,Tryz.ntmps25
 go_wp2_with (first |(refine Qp (by rfl) (.tmp 0) (by rfl) (Ar.Qf J) (by kernel_rfl) ?_;intro W1 t1 e2 B2 K2;have H1:=hide B2;have HK:=hide K2;have hc0:=Qb B2 0 (.int .i64 J.n) rfl;have hc1:=Qb B2 1 (.int .i64 J.p) rfl;have hc3:=Qb B2 3 (.int .i64 J.l) rfl;clear e2 B2 K2;refine Stp.go ?_))
 constructor
 go_wp2_with (first |(refine Qg Zv (by rfl) (.tmp 1) (by rfl) t1 0 (by kernel_rfl) (Ar.Qf J) (Qa HJL) (Qa H1).range ?_;refine Stp.go ?_))
 constructor
 go_wp2_with (first |(go_at_call 60;refine(Qa P43 _).mono ?_;rintro e W3 ⟨rfl,K3⟩;replace HK:=hide ((Qa HK).trans K3);clear K3))
 go_ret
 exact⟨rfl,Qa HK⟩
def ups (D:Dv.Dev):Nat→Dv.Dev
 | 0=>D
 | k+1=>((ups D k).up k).2.2
@[reducible] def S10 (w V:World) (D:Dv.Dev) (d:Nat→Bool) (vs:Nat→Value) (W:World):Prop:=
 Kept [] V W∧∃b g:Nat,(d 4=true→vs 4= .tuple #[P0 b,.int .i64 0]∧w.heap.size≤b∧w.heap.size≤g∧Dv.Dv W b g D)∧(d 5=true→vs 5= .tuple #[P0 b,.int .i64 0])∧(d 6=true→vs 6=P0 b)∧(d 8=true→vs 8=P0 b)
theorem S10.loc {w V:World} {D:Dv.Dev} :∀d d' vs vs' W,(∀i∈ [4,5,6,8],d i=d' i∧vs i=vs' i)→S10 w V D d vs W→S10 w V D d' vs' W:=by
 intro d d' vs vs' W H h;have e0:=H 4 (by simp);have e1:=H 5 (by simp);have e2:=H 6 (by simp);have e3:=H 8 (by simp);unfold S10 at h⊢;rw [← e0.1,← e0.2,← e1.1,← e1.2,← e2.1,← e2.2,← e3.1,← e3.2];exact h
theorem cg25 (vs:Array Value) (w:World):(callFunc 25 vs).run Tryz.prog w= .ok (.enter 25 vs) w:=by kernel_rfl
theorem cg29 (vs:Array Value) (w:World):(callFunc 29 vs).run Tryz.prog w= .ok (.enter 29 vs) w:=by kernel_rfl
section
variable {o:Oper} {a:Act} {w:World} {K:Act→World→Prop} {Q:Exit→Act→World→Prop}
theorem o_fldJ_0 (x:Operand) (ho:o.op= .fieldAddr 23 x 0) (b:Nat) (hx:a.eval x=P0 b) (h:K (a.put o.dst (.pointer (some ⟨b,0,none⟩))) w):o.wp Tryz.prog a w K Q:=by
 unfold Oper.wp execOp;simp only [ho,hx];simp [go_sem];exact h
end
theorem lnew10 (J:Ar.Job) (hm:J.may=true) (w:World):Calls Tryz.prog 10 #[Qd (Ar.Qf J)] w fun e w'=>∃b g,e= .returned (P0 b)∧w.heap.size≤b∧w.heap.size≤g∧Dv.Dv w' b g (ups (Dv.QY J.sectors.1.toNat J.n.toNat) J.n.toNat)∧Kept [] w w':=by
 have P25:=hide (fun W=>rsect25 J hm W);obtain⟨n,hn⟩:∃x,x=J.sectors.1.toNat:=⟨_,rfl⟩;obtain⟨N,hN⟩:∃x,x=J.n.toNat:=⟨_,rfl⟩;obtain⟨D,hDd⟩:∃x,x=Dv.QY n N:=⟨_,rfl⟩;have HDD:Hid (D=Dv.QY n N):=hDd;have hsec:(n:Int)=J.sectors.1∧1≤n∧n≤4096:=by
   have h9:=hm;simp only [Ar.Job.may,decide_eq_true_eq] at h9;have h1:J.n*(1+2*J.l)≤8*129:=Int.mul_le_mul (by omega) (by omega) (by omega) (by omega);have h2:0≤J.n*(1+2*J.l):=Int.mul_nonneg (by omega) (by omega);have e:J.sectors.1=J.p*2+(J.n*(1+2*J.l)+9):=by unfold Ar.Job.sectors Ar.Job.L;rw [if_pos hm]
   rw [e] at hn⊢;omega
 simp only [Ar.Job.may,decide_eq_true_eq] at hm;have hNn:(N:Int)=J.n:=by omega
 have HNB:Hid (Dv.newB n N=true):=by
   show _=_;simp only [Dv.newB,decide_eq_true_eq];omega
 rw [← hsec.1] at P25;rw [← hn,← hN,← hDd];have hN8:N≤8:=by omega
 have HNN:=hide hNn;clear hn hN hDd hsec hm hNn;go_enter Tryz.func10,Tryz.ntmps10
 go_wp2_with (first |(refine Qp (by rfl) (.tmp 0) (by rfl) (Ar.Qf J) (by kernel_rfl) ?_;intro V q1b e1 B1 K1;have H1:=hide B1;have HK:=hide K1;have HCN:Hid (V.cell? ⟨q1b,0,none⟩=some (.int .i64 (N:Int))):=(by show _=_;rw [Qa HNN];exact Qb B1 0 _ rfl);have HG1:Hid (w.heap.size≤q1b):=(by rw [e1];exact(Nat.le_refl _:w.heap.size≤w.heap.size));clear e1 B1 K1;refine Stp.go ?_))
 constructor
 go_wp2_with fail
 refine wp_region_any mixed (QL 10 rfl (by kernel_rfl) [some (Qd (Ar.Qf J)),some (.int .i64 (n:Int)),some (.pointer (some ⟨q1b,0,none⟩)),some (.int .i64 (N:Int)),none,none,none,some (.int .i64 0),none,some (.int .i64 0)] rfl (by kernel_rfl) (fun l_ vs W=>(S10 w V D) (fun i=>l_.getD i false) vs W) (⟨⟨rfl,rfl,rfl,Nat.le_refl _,fun _ _ _=>rfl⟩,0,0,(fun h=>by cases h),(fun h=>by cases h),(fun h=>by cases h),fun h=>by cases h⟩) ?_ ?_)
 · intro ix o' hi ho a' w2 l_ vs hls hlf hJ hout hin hdep hnot
   match ix,ho with
   | 0,ho=>
     obtain rfl:=Oj9 ho;have e0:=hout 1 (by kernel_rfl);replace e0:a'.eval (.tmp 1)=_:=e0.trans rfl;exact Qw Zv (.tmp 1) rfl q1b 0 e0 (Ar.Qf J) rfl ((Qa H1).kept hJ.1 (by simp)).range ⟨_,rfl,Qe rfl,Le.Qj [4,5,6,8] S10.loc (by omega) (by decide) hJ⟩
   | 1,ho=>
     obtain rfl:=Oj9 ho;have e0:a'.eval (.tmp 7)=Qd (Ar.Qf J):=by have h9:=hin 0 7 (by kernel_rfl) (by kernel_rfl);exact h9.1.trans (Qc _ h9.2 rfl)
     refine Qq 25 _ _ rfl #[Qd (Ar.Qf J)] (by simp [e0]) (cg25 _ _) ((Qa P25 w2).mono ?_);rintro e w3 ⟨rfl,hk3⟩;obtain⟨hk0,b,g,g1,g2,g3,g4⟩:=hJ;exact⟨_,rfl,_,rfl,Qe rfl,Le.Qj [4,5,6,8] S10.loc (by omega) (by decide) ⟨hk0.trans hk3,b,g,(fun h=>by obtain⟨q1,q2,q3,q4⟩:=g1 h;exact⟨q1,q2,q3,q4.kept hk3 (by simp) (by simp)⟩),g2,g3,g4⟩⟩
   | 2,ho=>
     obtain rfl:=Oj9 ho;have e0:=hout 1 (by kernel_rfl);replace e0:a'.eval (.tmp 1)=_:=e0.trans rfl;exact o_fldJ_0 (.tmp 1) rfl _ e0 ⟨_,rfl,Qe rfl,Le.Qj [4,5,6,8] S10.loc (by omega) (by decide) hJ⟩
   | 3,ho=>
     obtain rfl:=Oj9 ho;have e0:a'.eval (.tmp 9)= .pointer (some ⟨q1b,0,none⟩):=by have h9:=hin 2 9 (by kernel_rfl) (by kernel_rfl);exact h9.1.trans (Qc _ h9.2 rfl)
     exact Ar.Zx (.tmp 9) rfl _ _ e0 (hJ.1.cell (Qa HCN) (by simp)) ⟨_,rfl,Qe rfl,Le.Qj [4,5,6,8] S10.loc (by omega) (by decide) hJ⟩
   | 4,ho=>
     obtain rfl:=Oj9 ho;have e0:a'.eval (.tmp 8)= .int .i64 (n:Int):=by have h9:=hin 1 8 (by kernel_rfl) (by kernel_rfl);exact h9.1.trans (Qc _ h9.2 rfl)
     have e1:a'.eval (.tmp 10)= .int .i64 (N:Int):=by have h9:=hin 3 10 (by kernel_rfl) (by kernel_rfl);exact h9.1.trans (Qc _ h9.2 rfl)
     refine Qq 29 _ _ rfl #[.int .i64 (n:Int),.int .i64 (N:Int)] (by simp [e0,e1]) (cg29 _ _) ((Dv.new_yes n N w2 (Qa HNB)).mono ?_);rintro e w3 ⟨b,g,rfl,hb3,hg3,hD3,hk3⟩;have hw2:w.heap.size≤w2.heap.size:=Nat.le_trans (Qa HK).size hJ.1.size;exact⟨_,rfl,_,rfl,QA rfl,Le.QJ (by omega) ⟨hJ.1.trans hk3,b,g,(fun _=>⟨rfl,by omega,by omega,by rw [Qa HDD];exact hD3⟩),(fun h=>by have h9:l_.getD 5 false=true:=h;rw [hnot 5 (by kernel_rfl)] at h9;cases h9),(fun h=>by have h9:l_.getD 6 false=true:=h;rw [hnot 6 (by kernel_rfl)] at h9;cases h9),(fun h=>by have h9:l_.getD 8 false=true:=h;rw [hnot 8 (by kernel_rfl)] at h9;cases h9)⟩⟩
   | 5,ho=>
     obtain rfl:=Oj9 ho;have e0:a'.eval (.tmp 11)=vs 4:=(hin 4 11 (by kernel_rfl) (by kernel_rfl)).1;obtain⟨hk0,b,g,g1,g2,g3,g4⟩:=hJ;exact wp_move (.tmp 11) rfl _ e0 ⟨_,rfl,QA rfl,Le.QJ (by omega) ⟨hk0,b,g,(fun h=>g1 h),(fun _=>(g1 (hdep 4 (by kernel_rfl))).1),(fun h=>g3 h),fun h=>g4 h⟩⟩
   | 6,ho=>
     obtain rfl:=Oj9 ho;have e0:a'.eval (.tmp 6)=vs 5:=(hin 5 6 (by kernel_rfl) (by kernel_rfl)).1;obtain⟨hk0,b,g,g1,g2,g3,g4⟩:=hJ;exact o_ext (.tmp 6) 0 rfl _ _ (e0.trans (g2 (hdep 5 (by kernel_rfl)))) rfl ⟨_,rfl,QA rfl,Le.QJ (by omega) ⟨hk0,b,g,(fun h=>g1 h),(fun h=>g2 h),(fun _=>rfl),fun h=>g4 h⟩⟩
   | 7,ho=>
     obtain rfl:=Oj9 ho;have e0:a'.eval (.tmp 6)=vs 5:=(hin 5 6 (by kernel_rfl) (by kernel_rfl)).1;obtain⟨b,g,g1,g2,g3,g4⟩:=hJ.2;exact o_ext (.tmp 6) 1 rfl _ _ (e0.trans (g2 (hdep 5 (by kernel_rfl)))) rfl ⟨_,rfl,Qe rfl,Le.Qj [4,5,6,8] S10.loc (by omega) (by decide) hJ⟩
   | 8,ho=>
     obtain rfl:=Oj9 ho;have e0:a'.eval (.tmp 12)=vs 6:=(hin 6 12 (by kernel_rfl) (by kernel_rfl)).1;obtain⟨hk0,b,g,g1,g2,g3,g4⟩:=hJ;exact QI (.tmp 12) rfl _ e0 ⟨_,rfl,QA rfl,Le.QJ (by omega) ⟨hk0,b,g,(fun h=>g1 h),(fun h=>g2 h),(fun h=>g3 h),fun _=>g3 (hdep 6 (by kernel_rfl))⟩⟩
   | 9,ho=>
     obtain rfl:=Oj9 ho;have e0:a'.eval (.tmp 13)= .int .i64 0:=by have h9:=hin 7 13 (by kernel_rfl) (by kernel_rfl);exact h9.1.trans (Qc _ h9.2 rfl)
     exact QI (.tmp 13) rfl _ e0 ⟨_,rfl,Qe rfl,Le.Qj [4,5,6,8] S10.loc (by omega) (by decide) hJ⟩
 intro l_ vs9 V9 hl hJ htold;have t0:vs9 0=Qd (Ar.Qf J):=Qc _ (htold 0 (by decide)) rfl;have t1:vs9 1= .int .i64 (n:Int):=Qc _ (htold 1 (by decide)) rfl;have t2:vs9 2= .pointer (some ⟨q1b,0,none⟩):=Qc _ (htold 2 (by decide)) rfl;have t3:vs9 3= .int .i64 (N:Int):=Qc _ (htold 3 (by decide)) rfl;have t7:vs9 7= .int .i64 0:=Qc _ (htold 7 (by decide)) rfl;have t9:vs9 9= .int .i64 0:=Qc _ (htold 9 (by decide)) rfl;rw [show (List.range 10).map vs9= [vs9 0,vs9 1,vs9 2,vs9 3,vs9 4,vs9 5,vs9 6,vs9 7,vs9 8,vs9 9] from rfl];simp only [t0,t1,t2,t3,t7,t9,Qz,Act.put,List.setIfInBounds_toArray,List.set_cons_succ,List.set_cons_zero];clear t0 t1 t2 t3 t7 t9 htold;obtain⟨hk0,b,g,g1,g2,g3,g4⟩:=hJ;obtain⟨g5,hb9,hg9,hD9⟩:=g1 (hl 4 (by decide));rw [g5,g2 (hl 5 (by decide)),g3 (hl 6 (by decide)),g4 (hl 8 (by decide))];have HD9:=hide hD9;have HB9:Hid (w.heap.size≤b∧w.heap.size≤g):=⟨hb9,hg9⟩;have HC9:Hid (V9.cell? ⟨q1b,0,none⟩=some (.int .i64 (N:Int))):=hk0.cell (Qa HCN) (by simp);have HT:Hid (Blk V9 q1b 23 (Ar.Qf J)):=(Qa H1).kept hk0 (by simp);replace HK:=hide ((Qa HK).trans hk0);clear hk0 g1 g2 g3 g4 g5 hl hb9 hg9 hD9 HCN H1 P25;have hne:q1b∉ [b,g]:=by
   obtain⟨cap,h1,ex,h2,_⟩:=(Qa HD9).lay;have h3:=Qa HT;unfold Dv.Head at h1;unfold Blk at h3;intro hm;simp only [List.mem_cons,List.not_mem_nil,or_false] at hm;rcases hm with rfl | rfl
   · rw [h3] at h1;injection h1 with h1;injection h1 with _ h1;exact absurd h1 (by decide)
   · rw [h3] at h2;injection h2 with h2;injection h2 with _ h2;exact absurd h2 (by decide)
 have HNE:=hide hne;clear hne HT;go_wp2_with fail
 go_loopw [5] (fun i wr=>∃k:Nat,k≤N∧i= .int .i64 k∧Hid (Dv.Dv wr b g (ups D k))∧Hid (wr.cell? ⟨q1b,0,none⟩=some (.int .i64 (N:Int)))∧Hid (Kept [] w wr)) (fun i _=>N-(intOf i).toNat)
 case atStart=>exact ⟨0,by omega,rfl,HD9,HC9,HK⟩
 case round=>
   clear HD9 HC9 HK;obtain⟨k,hkN,rfl,RD,RC,RK⟩:=hrel;have hcn:=Qa RC;by_cases hlt:k<N
   · have P19:=hide (Dv.up27 b g (ups D k) k wr (Qa RD));go_wp2_with (first |(go_at_call 22;refine(Qa P19).mono ?_;rintro e W8 ⟨rfl,hD8,hk8⟩;have HD8:=hide hD8;have HC8:Hid (W8.cell? ⟨q1b,0,none⟩=some (.int .i64 (N:Int))):=hk8.cell hcn (Qa HNE);have HK8:Hid (Kept [] w W8):=(Qa RK).fresh hk8 (fun i hi hl=>by have:=Qa HB9;simp at hi;omega);clear hD8 hk8))
     go_roundw
     case rel=>exact ⟨k+1,by omega,by go_num,HD8,HC8,HK8⟩
     case measure=>simp [intOf];omega
   · obtain rfl:k=N:=by omega
     go_wp2_with fail
     go_ret
     exact⟨b,g,rfl,(Qa HB9).1,(Qa HB9).2,Qa RD,Qa RK⟩
theorem mm_dev0 {w W W':World} {bs:List (Nat×Nat×List Value)} {b g:Nat} {D:Dv.Dev} (h:Mm [] w W bs) (k:Kept [b,g] W W') (hd:Dv.Dv W b g D) (hge:w.heap.size≤b∧w.heap.size≤g) (hT:∀x∈bs,x.2.1≠115∧x.2.1≠59):Mm [] w W' bs:=
 ⟨h.kept.upNew k (by simp;omega),fun x hx=>(h.blk x hx).kept k (blk_ne (h.blk x hx) hd (hT x hx).1 (hT x hx).2),h.own,h.nd⟩
def jK:Job:=⟨3,1,1,2,2⟩
theorem buildJ (w:World):(Instr.build 23 #[(0,.int .i64 3),(1,.int .i64 1),(2,.int .i64 1),(3,.int .i64 2),(4,.int .i64 2)]).run Tryz.prog w= .ok (Qd (Qf jK)) w:=by kernel_rfl
theorem zeroJ (w:World):(Instr.alloc 23 true (.tuple #[])).run Tryz.prog w= .ok (P0 w.heap.size) (w.alloc (.cells (Qf job0).toArray 23)):=by kernel_rfl
theorem resJ (w:World) (z:Nat) (vs:List Value) (tmps:Array Value) (h4:tmps[0]?.getD undef=P0 z) (hl:vs.length=5) (hb:Blk w z 23 vs):(results Tryz.f28 tmps).run Tryz.prog w= .ok (Qd vs) w:=by
 have h1:=Zq Zv hl hb;simp [results,Tryz.results28,h4,h1,asAddr]
theorem job28 (w:World):Calls Tryz.prog 28 #[] w fun e w'=>e= .returned (Qd (Qf jK))∧Kept [] w w':=by
 have M:Hid (Mm [] w w []):=hide Mm.init;go_enter Tryz.func28,Tryz.ntmps28
 go_wp2_with (first |(refine Qv (Qf job0) zeroJ 0 rfl rfl rfl ?_;intro W1 b1 e1 B1 K1;replace M:=hide ((Qa M).new e1 B1 K1);clear e1 B1 K1;refine Stp.go ?_))
 constructor
 go_wp2_with (first |(refine Zm rfl #[(0,.const (.int .i64 3)),(1,.const (.int .i64 1)),(2,.const (.int .i64 1)),(3,.const (.int .i64 2)),(4,.const (.int .i64 2))] rfl #[(0,.int .i64 3),(1,.int .i64 1),(2,.int .i64 1),(3,.int .i64 2),(4,.int .i64 2)] (by kernel_rfl) (Qf jK) (buildJ _) ?_;refine Stp.go ?_))
 constructor
 go_wp2_with (first |(refine Qh Zv rfl (.tmp 0) (.tmp 1) rfl rfl b1 0 (Qf jK) rfl rfl rfl (Ar.jobC_one _) (Qa M) rfl rfl ?_;intro W2 N2;replace M:Hid (Mm [] w W2 [(b1,23,Qf jK)]):=hide N2;clear N2;refine Stp.go ?_))
 constructor
 go_wp2_with fail
 refine bodyPost_ret (resJ _ b1 _ _ rfl rfl ((Qa M).at 0 _ rfl)) rfl ?_;exact⟨rfl,(Qa M).kept⟩
def kD0:Dv.Dev:=ups (Dv.QY 26 3) 3
def kJ1:=mjoin kD0 jK 0 1
def kJ2:=mjoin kJ1.2.2 jK 0 1
def kO1:=mopen kJ2.2.2 jK 0 1
def kS1:=msay kO1.2.2 jK 0 ⟨1,1,1⟩
def kO2:=mopen kS1.2 jK 0 1
def kJ3:=mjoin kO2.2.2 jK 1 1
def kO3:=mopen kJ3.2.2 jK 0 1
def kU:=mOut kO3.2.2 jK 1 1 0
def kJ4:=mjoin kU.2.2 jK 2 5
def kS2:=msay kJ4.2.2 jK 0 ⟨1,2,0⟩
theorem kn0:mview (some kD0) jK=(Vi.fv,0):=by kernel_rfl
theorem kn1:(kJ1.1.2,kJ1.2.1,(Vi.vwC kJ1.1.1)[0]?,(Vi.vwC kJ1.1.1)[1]?,(Vi.vwC kJ1.1.1)[3]?)=(true,0,some (.int .i64 1),some (.bool false),some (.bool true)):=by kernel_rfl
theorem kn2:(kJ2.1.2,kJ2.2.1,kJ2.1.1)=(false,0,kJ1.1.1):=by kernel_rfl
theorem kn3:(kO1.2.1,kS1.1)=(11,0):=by kernel_rfl
theorem kn4:(kO2.1.2,kO2.2.1,(Vi.vwC kO2.1.1)[0]?,(Vi.vwC kO2.1.1)[1]?)=(true,0,some (.int .i64 1),some (.bool true)):=by kernel_rfl
theorem kn5:(kJ3.1.2,(Vi.vwC kJ3.1.1)[0]?,kO3.2.1)=(true,some (.int .i64 2),6):=by kernel_rfl
theorem kn6:(kU.1.2,kU.2.1,(Vi.vwC kU.1.1)[0]?,(Vi.vwC kU.1.1)[3]?,(Vi.vwC kU.1.1)[5]?,kU.2.2.epoch 0)=(true,0,some (.int .i64 3),some (.bool false),some (.bool true),(2,0)):=by kernel_rfl
theorem kn7:(kJ4.2.1,kS2.1)=(2,8):=by kernel_rfl
open Go.RowKit
open Le (Mm Qh Qo)
theorem buildL2 (w:World):(Instr.build 73 #[(0,.int .i64 1),(1,.int .i64 2)]).run Tryz.prog w= .ok (Qd (Le.Le.C ⟨1,2,0⟩)) w:=by kernel_rfl
theorem buildL3 (w:World):(Instr.build 73 #[(0,.int .i64 1),(1,.int .i64 1),(2,.int .i64 1)]).run Tryz.prog w= .ok (Qd (Le.Le.C ⟨1,1,1⟩)) w:=by kernel_rfl
abbrev Dc (f:FuncId) (args:List Value) (D D':Dv.Dev) (r:Value):Prop:=∀b g W,Dv.Dv W b g D→Vi.First W→Hid (Calls Tryz.prog f (P0 b::Qd (Qf jK)::args).toArray W fun e w'=>e= .returned r∧Kept [b,g] W w'∧Dv.Dv w' b g D')
theorem known_walk (w:World) (hF:Vi.First w) (D0 D1 D2 D3 D4 D5 D6 D7 D8 D9 D10:Dv.Dev) (v1 a1 v5 v6 a7 v8 a9:Vi.Vw) (t1 t7 t9:Bool) (e6:Int)
  (hv1:v1.ms.length=8) (ha1:a1.ms.length=8) (hv5:v5.ms.length=8) (hv6:v6.ms.length=8) (ha7:a7.ms.length=8) (hv8:v8.ms.length=8) (ha9:a9.ms.length=8)
  (c10:(Vi.vwC v1)[0]?=some (.int .i64 1)) (c11:(Vi.vwC v1)[1]?=some (.bool false)) (c13:(Vi.vwC v1)[3]?=some (.bool true)) (c50:(Vi.vwC v5)[0]?=some (.int .i64 1)) (c51:(Vi.vwC v5)[1]?=some (.bool true)) (c60:(Vi.vwC v6)[0]?=some (.int .i64 2)) (c80:(Vi.vwC v8)[0]?=some (.int .i64 3)) (c83:(Vi.vwC v8)[3]?=some (.bool false)) (c85:(Vi.vwC v8)[5]?=some (.bool true))
  (P10:∀W,Hid (Calls Tryz.prog 10 #[Qd (Qf jK)] W fun e w'=>∃b g,e= .returned (P0 b)∧W.heap.size≤b∧W.heap.size≤g∧Dv.Dv w' b g D0∧Kept [] W w'))
  (P13:∀b g W,Dv.Dv W b g D0→Vi.First W→Hid (Calls Tryz.prog 13 #[P0 b,Qd (Qf jK)] W fun e w'=>e= .returned (.tuple #[Qd (Vi.vwC Vi.fv),.int .i64 0])∧Kept [] W w'))
  (P1:Dc 32 [.int .i64 0,.int .i64 1] D0 D1 (.tuple #[Qd (Vi.vwC v1),.bool true,.int .i64 0]))
  (P2:Dc 32 [.int .i64 0,.int .i64 1] D1 D2 (.tuple #[Qd (Vi.vwC v1),.bool false,.int .i64 0]))
  (P3:Dc 34 [.int .i64 0,.int .i64 1] D2 D3 (.tuple #[Qd (Vi.vwC a1),.bool t1,.int .i64 11]))
  (P4:Dc 31 [.int .i64 0,Qd (Le.Le.C ⟨1,1,1⟩)] D3 D4 (.int .i64 0))
  (P5:Dc 34 [.int .i64 0,.int .i64 1] D4 D5 (.tuple #[Qd (Vi.vwC v5),.bool true,.int .i64 0]))
  (P6:Dc 32 [.int .i64 1,.int .i64 1] D5 D6 (.tuple #[Qd (Vi.vwC v6),.bool true,.int .i64 e6]))
  (P7:Dc 34 [.int .i64 0,.int .i64 1] D6 D7 (.tuple #[Qd (Vi.vwC a7),.bool t7,.int .i64 6]))
  (P8:Dc 33 [.int .i64 1,.int .i64 1,.int .i64 0] D7 D8 (.tuple #[Qd (Vi.vwC v8),.bool true,.int .i64 0]))
  (P9:∀b g W,Dv.Dv W b g D8→Hid (Calls Tryz.prog 21 #[P0 b,.int .i64 0] W fun e w'=>e= .returned (.tuple #[.int .i64 2,.int .i64 0])∧w'=W))
  (P11:Dc 32 [.int .i64 2,.int .i64 5] D8 D9 (.tuple #[Qd (Vi.vwC a9),.bool t9,.int .i64 2]))
  (P12:Dc 31 [.int .i64 0,Qd (Le.Le.C ⟨1,2,0⟩)] D9 D10 (.int .i64 8)):
  Calls Tryz.prog 9 #[] w fun e w'=>e= .returned (.bool true)∧Kept [] w w':=by
 have HF:=hide hF;have L1:=hide (Vi.Qk hv1);have M1:=hide hv1;have L2:=hide (Vi.Qk ha1);have L5:=hide (Vi.Qk hv5);have L6:=hide (Vi.Qk hv6);have L7:=hide (Vi.Qk ha7);have L8:=hide (Vi.Qk hv8);have L9:=hide (Vi.Qk ha9);have C10:=hide c10;have C11:=hide c11;have C13:=hide c13;have C50:=hide c50;have C51:=hide c51;have C60:=hide c60;have C80:=hide c80;have C83:=hide c83;have C85:=hide c85;clear hF hv1 ha1 hv5 hv6 ha7 hv8 ha9 c10 c11 c13 c50 c51 c60 c80 c83 c85;have M:Hid (Mm [] w w []):=hide Mm.init;go_enter Tryz.func9,Tryz.ntmps9
 go_wp2_with (first |(go_at_call 28;refine(job28 _).mono ?_;rintro e W1 ⟨rfl,K1⟩;replace M:=hide ((Qa M).step K1);clear K1;refine Stp.go ?_))
 constructor
 go_wp2_with (first |(refine QM Zv (Qf job0) rfl zeroJ 1 rfl rfl rfl (.tmp 32) rfl rfl rfl (Qf jK) rfl (Ar.jobC_one _) (by kernel_rfl) (by kernel_rfl) ?_;intro W2 b2 e2 B2 K2;replace M:=hide ((Qa M).new e2 B2 K2);clear e2 B2 K2;refine Stp.go ?_))
 constructor
 go_wp2_with (first |(refine Qg Zv rfl (.tmp 1) rfl b2 0 rfl (Qf jK) rfl ((Qa M).at 0 _ rfl).range ?_;refine Stp.go ?_))
 constructor
 go_wp2_with (first |(go_at_call 10;refine(Qa (P10 _)).mono ?_;rintro e W3 ⟨b,g,rfl,hb,hg,hd,k3⟩;have HG:Hid (w.heap.size≤b∧w.heap.size≤g):=⟨Nat.le_trans (Qa M).kept.size hb,Nat.le_trans (Qa M).kept.size hg⟩;have HD:=hide hd;replace M:=hide ((Qa M).step k3);clear hb hg hd k3 P10;refine Stp.go ?_))
 constructor
 go_wp2_with (first |(refine Qg Zv rfl (.tmp 1) rfl b2 0 rfl (Qf jK) rfl ((Qa M).at 0 _ rfl).range ?_;refine Stp.go ?_))
 constructor
 go_wp2_with (first |(go_at_call 13;refine(Qa (P13 b g _ (Qa HD) ((Qa HF).kept (Qa M).kept))).mono ?_;rintro e W4 ⟨rfl,k4⟩;replace HD:=hide ((Qa HD).kept k4 (by simp) (by simp));replace M:=hide ((Qa M).step k4);clear k4 P13;refine Stp.go ?_))
 constructor
 go_wp2_with (first |(refine QM Vi.Qn (Vi.vwC Vi.zv) rfl Vi.QE 3 rfl rfl rfl (.tmp 39) rfl rfl rfl (Vi.vwC Vi.fv) rfl (Vi.Ql _) (by kernel_rfl) (by kernel_rfl) ?_;intro W5 b5 e5 B5 K5;replace M:=hide ((Qa M).new e5 B5 K5);replace HD:=hide ((Qa HD).kept K5 (by simp) (by simp));clear e5 B5 K5;refine Stp.go ?_))
 constructor
 go_wp2_with (first |(refine Qg Zv rfl (.tmp 1) rfl b2 0 rfl (Qf jK) rfl ((Qa M).at 0 _ rfl).range ?_;refine Stp.go ?_))
 constructor
 go_wp2_with (first |(go_at_call 32;refine(Qa (P1 b g _ (Qa HD) ((Qa HF).kept (Qa M).kept))).mono ?_;rintro e W6 ⟨rfl,kd,hd⟩;replace M:Hid (Mm [] w W6 [(b2,23,Qf jK),(b5,29,Vi.vwC Vi.fv)]):=hide (mm_dev0 (Qa M) kd (Qa HD) (Qa HG) (by simp));replace HD:=hide hd;clear kd hd P1;refine Stp.go ?_))
 constructor
 go_wp2_with (first |(refine QM Vi.Qn (Vi.vwC Vi.zv) rfl Vi.QE 5 rfl rfl rfl (.tmp 45) rfl rfl rfl (Vi.vwC v1) (Qa L1) (Vi.Ql _) (by kernel_rfl) (by kernel_rfl) ?_;intro W7 b7 e7 B7 K7;replace M:=hide ((Qa M).new e7 B7 K7);replace HD:=hide ((Qa HD).kept K7 (by simp) (by simp));clear e7 B7 K7;refine Stp.go ?_))
 constructor
 go_wp2_with (first |(refine Qg Zv rfl (.tmp 1) rfl b2 0 rfl (Qf jK) rfl ((Qa M).at 0 _ rfl).range ?_;refine Stp.go ?_))
 constructor
 go_wp2_with (first |(go_at_call 32;refine(Qa (P2 b g _ (Qa HD) ((Qa HF).kept (Qa M).kept))).mono ?_;rintro e W8 ⟨rfl,kd,hd⟩;replace M:Hid (Mm [] w W8 [(b2,23,Qf jK),(b5,29,Vi.vwC Vi.fv),(b7,29,Vi.vwC v1)]):=hide (mm_dev0 (Qa M) kd (Qa HD) (Qa HG) (by simp));replace HD:=hide hd;clear kd hd P2;refine Stp.go ?_))
 constructor
 go_wp2_with (first |(refine QM Vi.Qn (Vi.vwC Vi.zv) rfl Vi.QE 8 rfl rfl rfl (.tmp 52) rfl rfl rfl (Vi.vwC v1) (Qa L1) (Vi.Ql _) (by kernel_rfl) (by kernel_rfl) ?_;intro W9 b9 e9 B9 K9;replace M:=hide ((Qa M).new e9 B9 K9);replace HD:=hide ((Qa HD).kept K9 (by simp) (by simp));clear e9 B9 K9;have q0:W9.cell? ⟨b7,0,none⟩=some (.int .i64 1):=Qb ((Qa M).at 2 _ rfl) 0 _ (Qa C10);have q1:W9.cell? ⟨b7,1,none⟩=some (.bool false):=Qb ((Qa M).at 2 _ rfl) 1 _ (Qa C11);have q3:W9.cell? ⟨b7,3,none⟩=some (.bool true):=Qb ((Qa M).at 2 _ rfl) 3 _ (Qa C13);refine Stp.go ?_))
 constructor
 go_wp2_with (first |(refine Vi.Zb Vi.Qn (.tmp 3) rfl rfl b5 0 rfl (Vi.vwC Vi.fv) rfl ((Qa M).at 1 _ rfl).range ?_;refine Stp.go ?_))
 constructor
 go_wp2_with (first |(refine wpBuildG #[(1,.const (.bool true))] rfl rfl #[(1,.bool true)] (by kernel_rfl) (Vi.vwC Vi.fv) (Vi.build26f _) ?_;refine Stp.go ?_))
 constructor
 go_wp2_with (first |(refine wpNeqG 29 29 Vi.guard26 (.tmp 58) (.tmp 59) rfl rfl (Vi.vwC Vi.fv) (Vi.vwC Vi.fv) rfl rfl true ((Vi.equal26 _ _ _ rfl rfl).trans (by simp)) ?_;refine Stp.go ?_))
 constructor
 go_wp2_with (first |(refine Vi.Zb Vi.Qn (.tmp 8) rfl rfl b9 0 rfl (Vi.vwC v1) (Qa L1) ((Qa M).at 3 _ rfl).range ?_;refine Stp.go ?_))
 constructor
 go_wp2_with (first |(refine Vi.Zb Vi.Qn (.tmp 5) rfl rfl b7 0 rfl (Vi.vwC v1) (Qa L1) ((Qa M).at 2 _ rfl).range ?_;refine Stp.go ?_))
 constructor
 go_wp2_with (first |(refine wpNeqG 29 29 Vi.guard26 (.tmp 87) (.tmp 88) rfl rfl (Vi.vwC v1) (Vi.vwC v1) rfl rfl true ((Vi.equal26 _ _ _ (Qa M1) (Qa M1)).trans (by simp)) ?_;clear q0 q1 q3;refine Stp.go ?_))
 constructor
 go_wp2_with (first |(refine Qg Zv rfl (.tmp 1) rfl b2 0 rfl (Qf jK) rfl ((Qa M).at 0 _ rfl).range ?_;refine Stp.go ?_))
 constructor
 go_wp2_with (first |(go_at_call 34;refine(Qa (P3 b g _ (Qa HD) ((Qa HF).kept (Qa M).kept))).mono ?_;rintro e W10 ⟨rfl,kd,hd⟩;replace M:Hid (Mm [] w W10 [(b2,23,Qf jK),(b5,29,Vi.vwC Vi.fv),(b7,29,Vi.vwC v1),(b9,29,Vi.vwC v1)]):=hide (mm_dev0 (Qa M) kd (Qa HD) (Qa HG) (by simp));replace HD:=hide hd;clear kd hd P3;refine Stp.go ?_))
 constructor
 go_wp2_with (first |(refine QM Vi.Qn (Vi.vwC Vi.zv) rfl Vi.QE 11 rfl rfl rfl (.tmp 102) rfl rfl rfl (Vi.vwC a1) (Qa L2) (Vi.Ql _) (by kernel_rfl) (by kernel_rfl) ?_;intro W11 b11 e11 B11 K11;replace M:=hide ((Qa M).new e11 B11 K11);replace HD:=hide ((Qa HD).kept K11 (by simp) (by simp));clear e11 B11 K11;refine Stp.go ?_))
 constructor
 go_wp2_with (first |(refine Qg Zv rfl (.tmp 1) rfl b2 0 rfl (Qf jK) rfl ((Qa M).at 0 _ rfl).range ?_;refine Stp.go ?_))
 constructor
 go_wp2_with (first |(refine Zm rfl #[(0,.const (.int .i64 1)),(1,.const (.int .i64 1)),(2,.const (.int .i64 1))] rfl #[(0,.int .i64 1),(1,.int .i64 1),(2,.int .i64 1)] (by kernel_rfl) (Le.Le.C ⟨1,1,1⟩) (buildL3 _) ?_;refine Stp.go ?_))
 constructor
 go_wp2_with (first |(go_at_call 31;refine(Qa (P4 b g _ (Qa HD) ((Qa HF).kept (Qa M).kept))).mono ?_;rintro e W12 ⟨rfl,kd,hd⟩;replace M:Hid (Mm [] w W12 [(b2,23,Qf jK),(b5,29,Vi.vwC Vi.fv),(b7,29,Vi.vwC v1),(b9,29,Vi.vwC v1),(b11,29,Vi.vwC a1)]):=hide (mm_dev0 (Qa M) kd (Qa HD) (Qa HG) (by simp));replace HD:=hide hd;clear kd hd P4;refine Stp.go ?_))
 constructor
 go_wp2_with (first |(refine Qg Zv rfl (.tmp 1) rfl b2 0 rfl (Qf jK) rfl ((Qa M).at 0 _ rfl).range ?_;refine Stp.go ?_))
 constructor
 go_wp2_with (first |(go_at_call 34;refine(Qa (P5 b g _ (Qa HD) ((Qa HF).kept (Qa M).kept))).mono ?_;rintro e W13 ⟨rfl,kd,hd⟩;replace M:Hid (Mm [] w W13 [(b2,23,Qf jK),(b5,29,Vi.vwC Vi.fv),(b7,29,Vi.vwC v1),(b9,29,Vi.vwC v1),(b11,29,Vi.vwC a1)]):=hide (mm_dev0 (Qa M) kd (Qa HD) (Qa HG) (by simp));replace HD:=hide hd;clear kd hd P5;refine Stp.go ?_))
 constructor
 go_wp2_with (first |(refine QM Vi.Qn (Vi.vwC Vi.zv) rfl Vi.QE 15 rfl rfl rfl (.tmp 113) rfl rfl rfl (Vi.vwC v5) (Qa L5) (Vi.Ql _) (by kernel_rfl) (by kernel_rfl) ?_;intro W14 b14 e14 B14 K14;replace M:=hide ((Qa M).new e14 B14 K14);replace HD:=hide ((Qa HD).kept K14 (by simp) (by simp));clear e14 B14 K14;have q0:W14.cell? ⟨b14,0,none⟩=some (.int .i64 1):=Qb ((Qa M).at 5 _ rfl) 0 _ (Qa C50);have q1:W14.cell? ⟨b14,1,none⟩=some (.bool true):=Qb ((Qa M).at 5 _ rfl) 1 _ (Qa C51);refine Stp.go ?_))
 constructor
 go_wp2_with (first |(refine Qg Zv rfl (.tmp 1) rfl b2 0 rfl (Qf jK) rfl ((Qa M).at 0 _ rfl).range ?_;clear q0 q1;refine Stp.go ?_))
 constructor
 go_wp2_with (first |(go_at_call 32;refine(Qa (P6 b g _ (Qa HD) ((Qa HF).kept (Qa M).kept))).mono ?_;rintro e W15 ⟨rfl,kd,hd⟩;replace M:Hid (Mm [] w W15 [(b2,23,Qf jK),(b5,29,Vi.vwC Vi.fv),(b7,29,Vi.vwC v1),(b9,29,Vi.vwC v1),(b11,29,Vi.vwC a1),(b14,29,Vi.vwC v5)]):=hide (mm_dev0 (Qa M) kd (Qa HD) (Qa HG) (by simp));replace HD:=hide hd;clear kd hd P6;refine Stp.go ?_))
 constructor
 go_wp2_with (first |(refine QM Vi.Qn (Vi.vwC Vi.zv) rfl Vi.QE 18 rfl rfl rfl (.tmp 144) rfl rfl rfl (Vi.vwC v6) (Qa L6) (Vi.Ql _) (by kernel_rfl) (by kernel_rfl) ?_;intro W16 b16 e16 B16 K16;replace M:=hide ((Qa M).new e16 B16 K16);replace HD:=hide ((Qa HD).kept K16 (by simp) (by simp));clear e16 B16 K16;refine Stp.go ?_))
 constructor
 go_wp2_with (first |(refine Qg Zv rfl (.tmp 1) rfl b2 0 rfl (Qf jK) rfl ((Qa M).at 0 _ rfl).range ?_;refine Stp.go ?_))
 constructor
 go_wp2_with (first |(go_at_call 34;refine(Qa (P7 b g _ (Qa HD) ((Qa HF).kept (Qa M).kept))).mono ?_;rintro e W17 ⟨rfl,kd,hd⟩;replace M:Hid (Mm [] w W17 [(b2,23,Qf jK),(b5,29,Vi.vwC Vi.fv),(b7,29,Vi.vwC v1),(b9,29,Vi.vwC v1),(b11,29,Vi.vwC a1),(b14,29,Vi.vwC v5),(b16,29,Vi.vwC v6)]):=hide (mm_dev0 (Qa M) kd (Qa HD) (Qa HG) (by simp));replace HD:=hide hd;clear kd hd P7;refine Stp.go ?_))
 constructor
 go_wp2_with (first |(refine QM Vi.Qn (Vi.vwC Vi.zv) rfl Vi.QE 21 rfl rfl rfl (.tmp 151) rfl rfl rfl (Vi.vwC a7) (Qa L7) (Vi.Ql _) (by kernel_rfl) (by kernel_rfl) ?_;intro W18 b18 e18 B18 K18;replace M:=hide ((Qa M).new e18 B18 K18);replace HD:=hide ((Qa HD).kept K18 (by simp) (by simp));clear e18 B18 K18;refine Stp.go ?_))
 constructor
 go_wp2_with (first |(refine Qg Zv rfl (.tmp 1) rfl b2 0 rfl (Qf jK) rfl ((Qa M).at 0 _ rfl).range ?_;refine Stp.go ?_))
 constructor
 go_wp2_with (first |(go_at_call 33;refine(Qa (P8 b g _ (Qa HD) ((Qa HF).kept (Qa M).kept))).mono ?_;rintro e W19 ⟨rfl,kd,hd⟩;replace M:Hid (Mm [] w W19 [(b2,23,Qf jK),(b5,29,Vi.vwC Vi.fv),(b7,29,Vi.vwC v1),(b9,29,Vi.vwC v1),(b11,29,Vi.vwC a1),(b14,29,Vi.vwC v5),(b16,29,Vi.vwC v6),(b18,29,Vi.vwC a7)]):=hide (mm_dev0 (Qa M) kd (Qa HD) (Qa HG) (by simp));replace HD:=hide hd;clear kd hd P8;refine Stp.go ?_))
 constructor
 go_wp2_with (first |(refine QM Vi.Qn (Vi.vwC Vi.zv) rfl Vi.QE 24 rfl rfl rfl (.tmp 158) rfl rfl rfl (Vi.vwC v8) (Qa L8) (Vi.Ql _) (by kernel_rfl) (by kernel_rfl) ?_;intro W20 b20 e20 B20 K20;replace M:=hide ((Qa M).new e20 B20 K20);replace HD:=hide ((Qa HD).kept K20 (by simp) (by simp));clear e20 B20 K20;have q0:W20.cell? ⟨b16,0,none⟩=some (.int .i64 2):=Qb ((Qa M).at 6 _ rfl) 0 _ (Qa C60);have q1:W20.cell? ⟨b20,0,none⟩=some (.int .i64 3):=Qb ((Qa M).at 8 _ rfl) 0 _ (Qa C80);have q3:W20.cell? ⟨b20,3,none⟩=some (.bool false):=Qb ((Qa M).at 8 _ rfl) 3 _ (Qa C83);have q5:W20.cell? ⟨b20,5,none⟩=some (.bool true):=Qb ((Qa M).at 8 _ rfl) 5 _ (Qa C85);refine Stp.go ?_))
 constructor
 go_wp2_with (first |(go_at_call 21;refine(Qa (P9 b g _ (Qa HD))).mono ?_;rintro e V9 ⟨rfl,q⟩;replace q:=q.symm;subst q;clear P9;refine Stp.go ?_))
 constructor
 go_wp2_with (first |(refine Qg Zv rfl (.tmp 1) rfl b2 0 rfl (Qf jK) rfl ((Qa M).at 0 _ rfl).range ?_;clear q0 q1 q3 q5;refine Stp.go ?_))
 constructor
 go_wp2_with (first |(go_at_call 32;refine(Qa (P11 b g _ (Qa HD) ((Qa HF).kept (Qa M).kept))).mono ?_;rintro e W21 ⟨rfl,kd,hd⟩;replace M:Hid (Mm [] w W21 [(b2,23,Qf jK),(b5,29,Vi.vwC Vi.fv),(b7,29,Vi.vwC v1),(b9,29,Vi.vwC v1),(b11,29,Vi.vwC a1),(b14,29,Vi.vwC v5),(b16,29,Vi.vwC v6),(b18,29,Vi.vwC a7),(b20,29,Vi.vwC v8)]):=hide (mm_dev0 (Qa M) kd (Qa HD) (Qa HG) (by simp));replace HD:=hide hd;clear kd hd P11;refine Stp.go ?_))
 constructor
 go_wp2_with (first |(refine QM Vi.Qn (Vi.vwC Vi.zv) rfl Vi.QE 29 rfl rfl rfl (.tmp 211) rfl rfl rfl (Vi.vwC a9) (Qa L9) (Vi.Ql _) (by kernel_rfl) (by kernel_rfl) ?_;intro W22 b22 e22 B22 K22;replace M:=hide ((Qa M).new e22 B22 K22);replace HD:=hide ((Qa HD).kept K22 (by simp) (by simp));clear e22 B22 K22;refine Stp.go ?_))
 constructor
 go_wp2_with (first |(refine Qg Zv rfl (.tmp 1) rfl b2 0 rfl (Qf jK) rfl ((Qa M).at 0 _ rfl).range ?_;refine Stp.go ?_))
 constructor
 go_wp2_with (first |(refine Zm rfl #[(0,.const (.int .i64 1)),(1,.const (.int .i64 2))] rfl #[(0,.int .i64 1),(1,.int .i64 2)] (by kernel_rfl) (Le.Le.C ⟨1,2,0⟩) (buildL2 _) ?_;refine Stp.go ?_))
 constructor
 go_wp2_with (first |(go_at_call 31;refine(Qa (P12 b g _ (Qa HD) ((Qa HF).kept (Qa M).kept))).mono ?_;rintro e W23 ⟨rfl,kd,hd⟩;replace M:Hid (Mm [] w W23 [(b2,23,Qf jK),(b5,29,Vi.vwC Vi.fv),(b7,29,Vi.vwC v1),(b9,29,Vi.vwC v1),(b11,29,Vi.vwC a1),(b14,29,Vi.vwC v5),(b16,29,Vi.vwC v6),(b18,29,Vi.vwC a7),(b20,29,Vi.vwC v8),(b22,29,Vi.vwC a9)]):=hide (mm_dev0 (Qa M) kd (Qa HD) (Qa HG) (by simp));replace HD:=hide hd;clear kd hd P12;refine Stp.go ?_))
 constructor
 go_wp2_with fail
 go_ret
 exact⟨rfl,(Qa M).kept⟩
open Go.RowKit
open Le (Mm Qh Qo)
structure Bad (W:World) (ao:Option Addr) (o:Option Dv.Dev) (j:Job) (x:Int):Prop where
 dq:Dq W (.pointer ao) o
 ne:x≠0
 two:first0 [qa (decide (0<Qs o)) 1,qa (Qu o j) 2]=x
theorem first0_pre {A B:List Int} {x:Int} (h:first0 A=x) (h0:x≠0):first0 (A++B)=x:=by
 induction A with
 | nil=>exact absurd h.symm h0
 | cons y A ih=>
  rw [List.cons_append];unfold first0 at h⊢;split
  · rename_i e;rw [if_pos e] at h;exact ih h
  · rename_i e;rw [if_neg e] at h;exact h
theorem Bad.asks {W:World} {ao:Option Addr} {o:Option Dv.Dev} {j:Job} {x:Int} (h:Bad W ao o j x) (n ep:Int) (more:List Int):first0 (asks o j n ep more)=x:=by
 have e:Go.Proofs.YtcfflbafclmheaaGreatDoor.asks o j n ep more= [qa (decide (0<Qs o)) 1,qa (Qu o j) 2]++([qa (Qt j n) 2,qa (Qx o n ep) 2]++more++ [qa (!QF o n ep) 8]):=by simp [Go.Proofs.YtcfflbafclmheaaGreatDoor.asks]
 rw [e];exact first0_pre h.two h.ne
theorem kl1:kJ1.1.1.ms.length=8:=by kernel_rfl
theorem kl2:kO1.1.1.ms.length=8:=by kernel_rfl
theorem kl3:kO2.1.1.ms.length=8:=by kernel_rfl
theorem kl4:kJ3.1.1.ms.length=8:=by kernel_rfl
theorem kl5:kO3.1.1.ms.length=8:=by kernel_rfl
theorem kl6:kU.1.1.ms.length=8:=by kernel_rfl
theorem kl7:kJ4.1.1.ms.length=8:=by kernel_rfl
theorem known9 (w:World) (hF:Vi.First w):Calls Tryz.prog 9 #[] w fun e w'=>e= .returned (.bool true)∧Kept [] w w':=by
 have k1:=kn1;have k2:=kn2;have k3:=kn3;have k4:=kn4;have k5:=kn5;have k6:=kn6;have k7:=kn7;simp only [Prod.mk.injEq] at k1 k2 k3 k4 k5 k6 k7;have hj:jK.may=true:=by kernel_rfl
 have e0:ups (Dv.QY jK.sectors.1.toNat jK.n.toNat) jK.n.toNat=kD0:=by kernel_rfl
 refine known_walk w hF kD0 kJ1.2.2 kJ2.2.2 kO1.2.2 kS1.2 kO2.2.2 kJ3.2.2 kO3.2.2 kU.2.2 kJ4.2.2 kS2.2 kJ1.1.1 kO1.1.1 kO2.1.1 kJ3.1.1 kO3.1.1 kU.1.1 kJ4.1.1 kO1.1.2 kO3.1.2 kJ4.1.2 kJ3.2.1
   kl1 kl2 kl3 kl4 kl5 kl6 kl7 k1.2.2.1 k1.2.2.2.1 k1.2.2.2.2 k4.2.2.1 k4.2.2.2 k5.2.1 k6.2.2.1 k6.2.2.2.1 k6.2.2.2.2.1 ?_ ?_ ?_ ?_ ?_ ?_ ?_ ?_ ?_ ?_ ?_ ?_ ?_
 · intro W;have:=lnew10 jK hj W;rw [e0] at this;exact this
 · intro b g W h hF;have:=view13 (P0 b) (some kD0) jK W ⟨b,g,rfl,h⟩ hF;rw [kn0] at this;exact this
 · intro b g W h hF;have:=join32 b g kD0 jK 0 1 W h hF;rw [show (mjoin kD0 jK 0 1).1.2=true from k1.1,show(mjoin kD0 jK 0 1).2.1=0 from k1.2.1] at this;exact this
 · intro b g W h hF;have:=join32 b g kJ1.2.2 jK 0 1 W h hF;rw [show (mjoin kJ1.2.2 jK 0 1).1.2=false from k2.1,show(mjoin kJ1.2.2 jK 0 1).2.1=0 from k2.2.1,show(mjoin kJ1.2.2 jK 0 1).1.1=kJ1.1.1 from k2.2.2] at this;exact this
 · intro b g W h hF;have:=open34 b g kJ2.2.2 jK 0 1 W h hF;rw [show (mopen kJ2.2.2 jK 0 1).2.1=11 from k3.1] at this;exact this
 · intro b g W h hF;have:=say31 b g kO1.2.2 jK 0 ⟨1,1,1⟩ W h;rw [show (msay kO1.2.2 jK 0 ⟨1,1,1⟩).1=0 from k3.2] at this;exact this
 · intro b g W h hF;have:=open34 b g kS1.2 jK 0 1 W h hF;rw [show (mopen kS1.2 jK 0 1).1.2=true from k4.1,show(mopen kS1.2 jK 0 1).2.1=0 from k4.2.1] at this;exact this
 · intro b g W h hF;have:=join32 b g kO2.2.2 jK 1 1 W h hF;rw [show (mjoin kO2.2.2 jK 1 1).1.2=true from k5.1] at this;exact this
 · intro b g W h hF;have:=open34 b g kJ3.2.2 jK 0 1 W h hF;rw [show (mopen kJ3.2.2 jK 0 1).2.1=6 from k5.2.2] at this;exact this
 · intro b g W h hF;have:=out33 b g kO3.2.2 jK 1 1 0 W h hF;rw [show (mOut kO3.2.2 jK 1 1 0).1.2=true from k6.1,show(mOut kO3.2.2 jK 1 1 0).2.1=0 from k6.2.1] at this;exact this
 · intro b g W h;have:=Dv.epoch19 b g kU.2.2 0 W h;rw [k6.2.2.2.2.2] at this;exact this
 · intro b g W h hF;have:=join32 b g kU.2.2 jK 2 5 W h hF;rw [show (mjoin kU.2.2 jK 2 5).2.1=2 from k7.1] at this;exact this
 · intro b g W h hF;have:=say31 b g kJ4.2.2 jK 0 ⟨1,2,0⟩ W h;rw [show (msay kJ4.2.2 jK 0 ⟨1,2,0⟩).1=8 from k7.2] at this;exact this
end Go.Proofs.YtcfflbafclmheaaGreatDoor
namespace Go.Proofs.YtcfflbafclmheaaGreatDoor.Dv
open Go.RowKit
def Dev.rleft (D:Dev):Int:=if D.set then D.left else -1
def ZJ (D:Dev) (sg cap eg ecap:Nat):Array Value:= #[.slice (some ⟨sg,0,none⟩) D.S.length cap,.slice (some ⟨eg,0,none⟩) D.N ecap,.int .i64 D.rleft,.bool D.lost,.int .i64 D.done]
structure Rv (w:World) (r sg eg:Nat) (D:Dev):Prop where
 ok:D.Ok
 ne:r≠sg∧r≠eg∧sg≠eg
 lay:∃cap ecap ex,w.heap[r]?=some (.cells (ZJ D sg cap eg ecap) 110 (0,0))∧Body w sg cap D.S∧w.heap[eg]?=some (.cells ((D.E.take D.N).map (Value.int .i64)++ex).toArray 2 (0,0))∧D.N≤ecap
theorem Rv.kept {w w':World} {r sg eg:Nat} {D:Dev} {X:List Nat} (h:Rv w r sg eg D) (hk:Kept X w w') (h1:r∉X) (h2:sg∉X) (h3:eg∉X):Rv w' r sg eg D:=by
 obtain⟨cap,ecap,ex,a1,⟨ex',a2,a3⟩,a4⟩:=h.lay;exact⟨h.ok,h.ne,cap,ecap,ex,hk.heap a1 h1,⟨ex',hk.heap a2 h2,a3⟩,hk.heap a4.1 h3,a4.2⟩
theorem Rv.lt {w:World} {r sg eg:Nat} {D:Dev} (h:Rv w r sg eg D):r<w.heap.size∧sg<w.heap.size∧eg<w.heap.size:=by
 obtain⟨cap,ecap,ex,a1,⟨ex',a2,a3⟩,a4⟩:=h.lay;exact⟨lt_of_block a1,lt_of_block a2,lt_of_block a4.1⟩
theorem Rv.cells {w:World} {r sg eg:Nat} {D:Dev} (h:Rv w r sg eg D):∃cap ecap,w.cell? ⟨r,0,none⟩=some (.slice (some ⟨sg,0,none⟩) D.S.length cap)∧w.cell? ⟨r,1,none⟩=some (.slice (some ⟨eg,0,none⟩) D.N ecap)∧w.cell? ⟨r,2,none⟩=some (.int .i64 D.rleft)∧w.cell? ⟨r,3,none⟩=some (.bool D.lost)∧w.cell? ⟨r,4,none⟩=some (.int .i64 D.done)∧(∀i,w.frozen? ⟨r,i,none⟩=false)∧Body w sg cap D.S∧D.N≤ecap:=by
 obtain⟨cap,ecap,ex,a1,a2,a3,a4⟩:=h.lay;refine⟨cap,ecap,?_,?_,?_,?_,?_,fun i=>QO a1 i,a2,a4⟩ <;> rw [cell_of_block a1] <;> rfl
theorem Rv.epoch {w:World} {r sg eg:Nat} {D:Dev} (h:Rv w r sg eg D) (k:Nat) (hk:k<D.N):w.cell? ⟨eg,k,none⟩=some (.int .i64 (D.ep k)):=by
 obtain⟨cap,ecap,ex,a1,a2,a3,a4⟩:=h.lay;have h1:=h.ok.n1;have h8:=h.ok.e8;rw [cell_of_block a3,List.getElem?_toArray,List.getElem?_append_left (by simp;omega)];simp [Dev.ep,List.getD,hk,show k<D.E.length by omega]
theorem r_epoch (r sg eg:Nat) (D:Dev) (x:Int) (w:World) (h:Rv w r sg eg D):Calls Tryz.prog 37 #[P0 r,.int .i64 x] w fun e w'=>e= .returned (.tuple #[.int .i64 (D.epoch x).1,.int .i64 (D.epoch x).2])∧w'=w:=by
 obtain⟨cap,ecap,c0,c1,c2,c3,c4,cf,hb,hec⟩:=h.cells;by_cases h0:x<0
 · have hE:D.epoch x=(0,2):=by simp [Dev.epoch,hasN];omega
   rw [hE];clear hE;go_enter Tryz.func37,Tryz.ntmps37
   go_wp2_with fail
   go_ret2
   exact⟨rfl,rfl⟩
 · obtain⟨k,rfl⟩:=Int.eq_ofNat_of_zero_le (show 0≤x by omega);by_cases hk:k<D.N
   · have hE:D.epoch k=(D.ep k,0):=by simp [Dev.epoch,hasN,hk]
     rw [hE];have hc:=h.epoch k hk;clear hE;go_enter Tryz.func37,Tryz.ntmps37
     go_wp2_with fail
     go_ret2
     exact⟨rfl,rfl⟩
   · have hE:D.epoch k=(0,2):=by simp [Dev.epoch,hasN,hk]
     rw [hE];clear hE;go_enter Tryz.func37,Tryz.ntmps37
     go_wp2_with fail
     go_ret2
     exact⟨rfl,rfl⟩
def Dev.whoR (D:Dev) (x ep:Int):Int:=if hasN D.N x=true∧0≤ep∧ep≤D.ep x then 0 else 2
theorem r_who (r sg eg:Nat) (D:Dev) (x ep:Int) (w:World) (h:Rv w r sg eg D):Calls Tryz.prog 144 #[P0 r,.int .i64 x,.int .i64 ep] w fun e w'=>e= .returned (.int .i64 (D.whoR x ep))∧w'=w:=by
 obtain⟨cap,ecap,c0,c1,c2,c3,c4,cf,hb,hec⟩:=h.cells;by_cases h0:x<0
 · have hE:Hid (D.whoR x ep=2):=by simp [Dev.whoR,hasN,Hid];omega
   go_enter Tryz.func144,Tryz.ntmps144
   go_wp2_with fail
   go_ret
   exact⟨ret_int hE.out.symm,rfl⟩
 · obtain⟨k,rfl⟩:=Int.eq_ofNat_of_zero_le (show 0≤x by omega);by_cases hk:k<D.N
   · have hc:=h.epoch k hk;by_cases he0:ep<0
     · have hE:Hid (D.whoR k ep=2):=by simp [Dev.whoR,hasN,Hid,hk];omega
       go_enter Tryz.func144,Tryz.ntmps144
       go_wp2_with fail
       go_ret
       exact⟨ret_int hE.out.symm,rfl⟩
     · by_cases he1:ep≤D.ep k
       · have hE:Hid (D.whoR k ep=0):=by simp [Dev.whoR,hasN,Hid,hk,he1];omega
         go_enter Tryz.func144,Tryz.ntmps144
         go_wp2_with fail
         go_ret
         exact⟨ret_int hE.out.symm,rfl⟩
       · have hE:Hid (D.whoR k ep=2):=by simp [Dev.whoR,hasN,Hid,hk];omega
         go_enter Tryz.func144,Tryz.ntmps144
         go_wp2_with fail
         go_ret
         exact⟨ret_int hE.out.symm,rfl⟩
   · have hE:Hid (D.whoR k ep=2):=by simp [Dev.whoR,hasN,Hid,hk]
     go_enter Tryz.func144,Tryz.ntmps144
     go_wp2_with fail
     go_ret
     exact⟨ret_int hE.out.symm,rfl⟩
end Go.Proofs.YtcfflbafclmheaaGreatDoor.Dv
