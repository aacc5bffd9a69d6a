import Derived.Test.YtbigongmlpoahaaUFn
namespace Go.Proofs.Ytbigongmlpoahaa
set_option maxHeartbeats 2000000
set_option maxRecDepth 100000
set_option linter.unusedSimpArgs false
open Go.RowKit
theorem wrote_a (s:Lo) (ln:Value) (b:Nat) (L:List Wi) (m c p:Int) (w:World) (h:Sd w b ln s L) (hm:isN m=false):Calls Try.prog 53 #[P0 b,.int .i64 m,.int .i64 c,.int .i64 p] w (LC b ln w (s,L,[])):=by
 have H:=hide h
 have P46:∀W,Hid (Calls Try.prog 76 #[.int .i64 m] W fun e w'=>e= .returned (.bool false)∧w'=W):=fun W=>hide (by have h9:=isNode46 m W;rw [show isN m=false by exact hm] at h9;exact h9)
 clear h hm
 go_enter Try.func53,Try.ntmps53
 go_wp2_with (first |(go_at_call 68;refine(none40 s ln b _ ((unhide H).blk)).mono ?_;rintro e W11 ⟨rfl,q11⟩;replace q11:=q11.symm;subst q11;refine Stp.go ?_))
 constructor
 go_wp2_with (first |(go_at_call 76;refine(unhide (P46 _)).mono ?_;rintro e W12 ⟨rfl,q12⟩;replace q12:=q12.symm;subst q12;refine Stp.go ?_))
 constructor
 go_wp2_with fail
 go_ret
 exact LC.none (unhide H).blk (unhide H).row (Kept.refl _ _)
theorem wrote_b (s:Lo) (ln:Value) (b:Nat) (L:List Wi) (n:Nat) (c p:Int) (w:World) (h:Sd w b ln s L) (hn:n<8) (hp:p<0):Calls Try.prog 53 #[P0 b,.int .i64 n,.int .i64 c,.int .i64 p] w (LC b ln w (s,L,[])):=by
 have H:=hide h
 have P46:=t46 (n:=n) (by omega)
 have hpd:decide (p<0)=true:=by simpa using hp
 clear h
 go_enter Try.func53,Try.ntmps53
 go_wp2_with (first |(go_at_call 68;refine(none40 s ln b _ ((unhide H).blk)).mono ?_;rintro e W11 ⟨rfl,q11⟩;replace q11:=q11.symm;subst q11;refine Stp.go ?_))
 constructor
 go_wp2_with (first |(go_at_call 76;refine(unhide (P46 _)).mono ?_;rintro e W12 ⟨rfl,q12⟩;replace q12:=q12.symm;subst q12;refine Stp.go ?_))
 constructor
 go_wp2_with fail
 go_ret
 exact LC.none (unhide H).blk (unhide H).row (Kept.refl _ _)
theorem wrote_c (s:Lo) (ln:Value) (b:Nat) (L:List Wi) (n:Nat) (c p:Int) (w:World) (h:Sd w b ln s L) (hn:n<8) (hp:¬p<0) (hq:p>2147483647):Calls Try.prog 53 #[P0 b,.int .i64 n,.int .i64 c,.int .i64 p] w (LC b ln w (s,L,[])):=by
 have H:=hide h
 have P46:=t46 (n:=n) (by omega)
 have hpd:decide (p<0)=false:=by simpa using hp
 have hqd:decide (p>2147483647)=true:=by simpa using hq
 clear h
 go_enter Try.func53,Try.ntmps53
 go_wp2_with (first |(go_at_call 68;refine(none40 s ln b _ ((unhide H).blk)).mono ?_;rintro e W11 ⟨rfl,q11⟩;replace q11:=q11.symm;subst q11;refine Stp.go ?_))
 constructor
 go_wp2_with (first |(go_at_call 76;refine(unhide (P46 _)).mono ?_;rintro e W12 ⟨rfl,q12⟩;replace q12:=q12.symm;subst q12;refine Stp.go ?_))
 constructor
 go_wp2_with fail
 go_ret
 exact LC.none (unhide H).blk (unhide H).row (Kept.refl _ _)
section
variable {ops:Array Oper} {rest:List Oper} {op:Oper} {a:Act} {w w0:World} {Q:Exit→Act→World→Prop} {X:List Nat} {bs:List (Nat×Nat×List Value)}
theorem wpStK {T n:Nat} (hT:Row T n) (hgd:op.guard=none) (x y:Operand) (ho:op.op= .store T x y) (hd:op.dst=none) (b off i:Nat) (vs:List Value) (hx:a.eval x= .pointer (some ⟨b,off,none⟩)) (hy:a.eval y=aggV vs) (hl:vs.length=n) (h1:∀v∈vs,v.oneCell'=true) (hM:Mm X w0 w bs) {TT:Nat} {us us':List Value} (hi:bs[i]?=some (b,TT,us)) (hu:off+n≤us.length) (he:∀W,Blk W b TT us→Blk (W.setCells b off vs) b TT us')
   (h:∀W,Mm X w0 W (bs.set i (b,TT,us'))→Kept [b] w W→wpList Try.prog ops Q rest a W):wpList Try.prog ops Q (op::rest) a w:=
 wpList_plain hgd fun _ hK=>wp_storeN hT x y ho hd b off vs hx hy hl h1 ((hM.at i _ hi).there hu) (hK _ _ (h _ (hM.mut i hi ((Kept.refl _ _).setCells _ _ (by simp)) (he _ (hM.at i _ hi))) ((Kept.refl _ _).setCells _ _ (by simp))))
theorem wpStK1 {T:Nat} (hs:(Try.prog.info? T).map (·.size)=some 1) (hgd:op.guard=none) (x y:Operand) (ho:op.op= .store T x y) (hd:op.dst=none) (b off i:Nat) (v:Value) (h1:One v) (hx:a.eval x= .pointer (some ⟨b,off,none⟩)) (hy:a.eval y=v) (hM:Mm X w0 w bs) {TT:Nat} {us us':List Value} (hi:bs[i]?=some (b,TT,us)) (hl:off<us.length) (he:us.set off v=us')
   (h:∀W,Mm X w0 W (bs.set i (b,TT,us'))→Kept [b] w W→wpList Try.prog ops Q rest a W):wpList Try.prog ops Q (op::rest) a w:=
 wpList_plain hgd fun _ hK=>o_stB hs x y ho hd b off v h1 hx hy (hM.at i _ hi) hl he (fun W h1 h2=>hK _ _ (h W (hM.mut i hi h2 h1) h2))
end
theorem wrote_d (s:Lo) (ln:Value) (b:Nat) (L:List Wi) (n:Nat) (c p:Int) (w:World) (h:Sd w b ln s L) (hn:n<8) (hp:¬p<0) (hq:¬p>2147483647) (hO:¬(n:Int)=s.ow):Calls Try.prog 53 #[P0 b,.int .i64 n,.int .i64 c,.int .i64 p] w (LC b ln w (s,L,s.discards p)):=by
 have H:=hide h
 have hnI:(n:Int)<8:=by omega
 have P46:=t46 (n:=n) (by omega)
 have hpd:decide (p<0)=false:=by simpa using hp
 have hqd:decide (p>2147483647)=false:=by simpa using hq
 have hOa:decide ((n:Int)=s.ow)=false:=nef_a hO
 have hOb:((n:Int) == s.ow)=false:=nef_b hO
 have hOc:((n:Int) !=s.ow)=true:=nef_c hO
 clear h
 go_enter Try.func53,Try.ntmps53
 go_wp2_with (first |(go_at_call 68;refine(none40 s ln b _ ((unhide H).blk)).mono ?_;rintro e W11 ⟨rfl,q11⟩;replace q11:=q11.symm;subst q11;refine Stp.go ?_))
 constructor
 go_wp2_with (first |(go_at_call 76;refine(unhide (P46 _)).mono ?_;rintro e W12 ⟨rfl,q12⟩;replace q12:=q12.symm;subst q12;refine Stp.go ?_))
 constructor
 go_wp2_with (first |(go_at_call 87;refine(discards61 s ln b p _ (unhide H).blk).mono ?_;rintro e W2 ⟨v2,rfl,N2,K2⟩;have HN2:=hide N2;have HB2:Hid (Blk W2 b 108 (s.C ln)):=(unhide H).blk.kept K2 (by simp);have M:Hid (Mm [b] w W2 [(b,108,s.C ln)]):=(Mm.one (unhide H).blk).step K2;have c2:W2.cell? ⟨b,2,none⟩=some (.int .i64 s.ow):=fits_cell (unhide HB2) 2 _ rfl;clear N2 K2;refine Stp.go ?_))
 constructor
 go_wp2_with fail
 go_ret
 have hM:=unhide M
 exact⟨_,ln,rfl,unhide HN2,hM.at 0 _ rfl,(unhide H).row1 hM.kept,hM.kept.mono (by simp),Grw.refl _ _⟩
theorem wrote_e (s:Lo) (ln:Value) (b:Nat) (L:List Wi) (n:Nat) (c p:Int) (w:World) (h:Sd w b ln s L) (hn:n<8) (hp:¬p<0) (hq:¬p>2147483647) (hO:(n:Int)=s.ow) (hc:¬c=s.ops n):Calls Try.prog 53 #[P0 b,.int .i64 n,.int .i64 c,.int .i64 p] w (LC b ln w (s,L,s.discards p)):=by
 have H:=hide h
 have hnI:(n:Int)<8:=by omega
 have P46:=t46 (n:=n) (by omega)
 have hpd:decide (p<0)=false:=by simpa using hp
 have hqd:decide (p>2147483647)=false:=by simpa using hq
 have HO:=hide hO
 clear hO
 have hca:decide (c=s.ops n)=false:=nef_a hc
 have hcb:(c == s.ops n)=false:=nef_b hc
 have hcc:(c !=s.ops n)=true:=nef_c hc
 clear h
 go_enter Try.func53,Try.ntmps53
 go_wp2_with (first |(go_at_call 68;refine(none40 s ln b _ ((unhide H).blk)).mono ?_;rintro e W11 ⟨rfl,q11⟩;replace q11:=q11.symm;subst q11;refine Stp.go ?_))
 constructor
 go_wp2_with (first |(go_at_call 76;refine(unhide (P46 _)).mono ?_;rintro e W12 ⟨rfl,q12⟩;replace q12:=q12.symm;subst q12;refine Stp.go ?_))
 constructor
 go_wp2_with (first |(go_at_call 87;refine(discards61 s ln b p _ (unhide H).blk).mono ?_;rintro e W2 ⟨v2,rfl,N2,K2⟩;have HN2:=hide N2;have HB2:Hid (Blk W2 b 108 (s.C ln)):=(unhide H).blk.kept K2 (by simp);have M:Hid (Mm [b] w W2 [(b,108,s.C ln)]):=(Mm.one (unhide H).blk).step K2;have c2:W2.cell? ⟨b,2,none⟩=some (.int .i64 (n:Int)):=(by rw [unhide HO];exact fits_cell (unhide HB2) 2 _ rfl);have co:W2.cell? ⟨b,11+n,none⟩=some (.int .i64 (s.ops n)):=(unhide HB2).ops hn;clear N2 K2;refine Stp.go ?_))
 constructor
 go_wp2_with fail
 go_ret
 have hM:=unhide M
 exact⟨_,ln,rfl,unhide HN2,hM.at 0 _ rfl,(unhide H).row1 hM.kept,hM.kept.mono (by simp),Grw.refl _ _⟩
theorem wrote_f (s:Lo) (ln:Value) (b:Nat) (L:List Wi) (n:Nat) (p:Int) (w:World) (h:Sd w b ln s L) (hn:n<8) (hp:¬p<0) (hq:¬p>2147483647) (hO:(n:Int)=s.ow) (hx:s.ex=(n:Int)) (hF:¬s.hk=3):Calls Try.prog 53 #[P0 b,.int .i64 n,.int .i64 (s.ops n),.int .i64 p] w (LC b ln w (s.noPa,L,s.discards p)):=by
 have H:=hide h
 have hnI:(n:Int)<8:=by omega
 have P46:=t46 (n:=n) (by omega)
 have hpd:decide (p<0)=false:=by simpa using hp
 have hqd:decide (p>2147483647)=false:=by simpa using hq
 have HO:=hide hO
 clear hO
 have HX:=hide hx
 clear hx
 have HF:Hid (decide (s.hk=3)=false):=by simpa [Hid] using hF
 clear hF
 clear h
 go_enter Try.func53,Try.ntmps53
 go_wp2_with (first |(go_at_call 68;refine(none40 s ln b _ ((unhide H).blk)).mono ?_;rintro e W11 ⟨rfl,q11⟩;replace q11:=q11.symm;subst q11;refine Stp.go ?_))
 constructor
 go_wp2_with (first |(go_at_call 76;refine(unhide (P46 _)).mono ?_;rintro e W12 ⟨rfl,q12⟩;replace q12:=q12.symm;subst q12;refine Stp.go ?_))
 constructor
 go_wp2_with (first |(go_at_call 87;refine(discards61 s ln b p _ (unhide H).blk).mono ?_;rintro e W2 ⟨v2,rfl,N2,K2⟩;have HN2:=hide N2;have HB2:Hid (Blk W2 b 108 (s.C ln)):=(unhide H).blk.kept K2 (by simp);have M:Hid (Mm [b] w W2 [(b,108,s.C ln)]):=(Mm.one (unhide H).blk).step K2;have c2:W2.cell? ⟨b,2,none⟩=some (.int .i64 (n:Int)):=(by rw [unhide HO];exact fits_cell (unhide HB2) 2 _ rfl);have co:W2.cell? ⟨b,11+n,none⟩=some (.int .i64 (s.ops n)):=(unhide HB2).ops hn;clear N2 K2;refine Stp.go ?_))
 constructor
 go_wp2_with (first |(refine wpBuildZ (T:=106) (b8 no8) build73 rfl rfl ?_;refine Stp.go ?_))
 constructor
 go_wp2_with (first |(refine wpStK row73 rfl (.tmp 48) (.tmp 46) rfl rfl b (19) 0 (b8 no8) rfl rfl rfl (b8_one _) (unhide M) rfl (Nat.le_of_ble_eq_true rfl) (fun W h=>h.paP no8) ?_;intro W18 N18 KK;replace M:Hid (Mm [b] w W18 [(b,108,s.noPa.C ln)]):=hide N18;clear N18;clear c2 co HB2;have c1:W18.cell? ⟨b,1,none⟩=some (.int .i64 (n:Int)):=(by rw [← unhide HX];exact fits_cell ((unhide M).at 0 _ rfl) 1 _ rfl);replace HN2:Hid (Ou w W18 v2 (s.discards p)):=⟨(unhide HN2).row.kept KK (fun k hk=>by have:=(unhide HN2).own k hk;have:=(unhide H).blk.lt;simp;omega),(unhide HN2).own⟩;clear KK;refine Stp.go ?_))
 constructor
 go_wp2_with (first |(go_at_call 83;refine(flushes49 s.noPa ln b _ ((unhide M).at 0 _ rfl)).mono ?_;rintro e W19 ⟨rfl,q19⟩;replace q19:=q19.symm;subst q19;rw [show decide (s.noPa.hk=3)=false from unhide HF];clear c1;refine Stp.go ?_))
 constructor
 go_wp2_with fail
 go_ret
 have hM:=unhide M
 exact⟨_,ln,rfl,unhide HN2,hM.at 0 _ rfl,(unhide H).row1 hM.kept,hM.kept.mono (by simp),Grw.refl _ _⟩
theorem wrote_g (s:Lo) (ln:Value) (b:Nat) (L:List Wi) (n:Nat) (p:Int) (w:World) (h:Sd w b ln s L) (hn:n<8) (hp:¬p<0) (hq:¬p>2147483647) (hO:(n:Int)=s.ow) (hx:s.ex=(n:Int)) (hF:s.hk=3):Calls Try.prog 53 #[P0 b,.int .i64 n,.int .i64 (s.ops n),.int .i64 p] w (LC b ln w (more (s.discards p) (nextP s.noPa.over L))):=by
 have H:=hide h
 have hnI:(n:Int)<8:=by omega
 have P46:=t46 (n:=n) (by omega)
 have hpd:decide (p<0)=false:=by simpa using hp
 have hqd:decide (p>2147483647)=false:=by simpa using hq
 have HO:=hide hO
 clear hO
 have HX:=hide hx
 clear hx
 have HF:Hid (decide (s.hk=3)=true):=by simpa [Hid] using hF
 clear hF
 clear h
 go_enter Try.func53,Try.ntmps53
 go_wp2_with (first |(go_at_call 68;refine(none40 s ln b _ ((unhide H).blk)).mono ?_;rintro e W11 ⟨rfl,q11⟩;replace q11:=q11.symm;subst q11;refine Stp.go ?_))
 constructor
 go_wp2_with (first |(go_at_call 76;refine(unhide (P46 _)).mono ?_;rintro e W12 ⟨rfl,q12⟩;replace q12:=q12.symm;subst q12;refine Stp.go ?_))
 constructor
 go_wp2_with (first |(go_at_call 87;refine(discards61 s ln b p _ (unhide H).blk).mono ?_;rintro e W2 ⟨v2,rfl,N2,K2⟩;have HN2:=hide N2;have HB2:Hid (Blk W2 b 108 (s.C ln)):=(unhide H).blk.kept K2 (by simp);have M:Hid (Mm [b] w W2 [(b,108,s.C ln)]):=(Mm.one (unhide H).blk).step K2;have c2:W2.cell? ⟨b,2,none⟩=some (.int .i64 (n:Int)):=(by rw [unhide HO];exact fits_cell (unhide HB2) 2 _ rfl);have co:W2.cell? ⟨b,11+n,none⟩=some (.int .i64 (s.ops n)):=(unhide HB2).ops hn;clear N2 K2;refine Stp.go ?_))
 constructor
 go_wp2_with (first |(refine wpBuildZ (T:=106) (b8 no8) build73 rfl rfl ?_;refine Stp.go ?_))
 constructor
 go_wp2_with (first |(refine wpStK row73 rfl (.tmp 48) (.tmp 46) rfl rfl b (19) 0 (b8 no8) rfl rfl rfl (b8_one _) (unhide M) rfl (Nat.le_of_ble_eq_true rfl) (fun W h=>h.paP no8) ?_;intro W18 N18 KK;replace M:Hid (Mm [b] w W18 [(b,108,s.noPa.C ln)]):=hide N18;clear N18;clear c2 co HB2;have c1:W18.cell? ⟨b,1,none⟩=some (.int .i64 (n:Int)):=(by rw [← unhide HX];exact fits_cell ((unhide M).at 0 _ rfl) 1 _ rfl);replace HN2:Hid (Ou w W18 v2 (s.discards p)):=⟨(unhide HN2).row.kept KK (fun k hk=>by have:=(unhide HN2).own k hk;have:=(unhide H).blk.lt;simp;omega),(unhide HN2).own⟩;clear KK;refine Stp.go ?_))
 constructor
 go_wp2_with (first |(go_at_call 83;refine(flushes49 s.noPa ln b _ ((unhide M).at 0 _ rfl)).mono ?_;rintro e W19 ⟨rfl,q19⟩;replace q19:=q19.symm;subst q19;rw [show decide (s.noPa.hk=3)=true from unhide HF];clear c1;refine Stp.go ?_))
 constructor
 go_wp2_with (first |(go_at_call 82;refine(done60 s.noPa ln b L _ ((unhide M).at 0 _ rfl) (noPa_ok (unhide H).ok) ((unhide H).row1 (unhide M).kept) (unhide H).all (by show 0≤s.op∧s.op+L.length≤1000000;have:=(unhide H).op0;have:=(unhide H).op1;omega) (by have:=(unhide H).len;omega)).mono ?_;rintro e W30 ⟨v4,ln2,rfl,N4,B4,R4,K4,S4⟩;have HN4:=hide N4.row;have HO3:Hid (Ou w W30 v2 (s.discards p)):=(unhide HN2).kept K4 (fun k hk=>by have:=(unhide H).blk.lt;simp;omega);have HB4:=hide B4;have HR4:=hide R4;have HK4:Hid (Kept [b] w W30):=(unhide M).kept.trans K4;have HS4:=hide S4;clear N4 B4 R4 K4 S4 HN2;refine Stp.go ?_))
 constructor
 go_wp2_with (first |(refine wpAppN el28 rfl (.tmp 60) (.tmp 62) rfl v2 _ _ rfl (unhide HO3) v4 _ _ rfl (unhide HN4) (odC_one _) (by have:=nextP_len L s.noPa.over;have:=(unhide H).len;have:=discards_len s p;omega) (max1000 (by have:=nextP_len L s.noPa.over;have:=(unhide H).len;have:=discards_len s p;omega)) (unhide HK4).size ?_;intro v5 W5 N5 K5;have HO5:Hid (Ou w W5 v5 (s.discards p++(nextP s.noPa.over L).2.2)):=New.app N5;have HB5:Hid (Blk W5 b 108 ((nextP s.noPa.over L).1.C ln2)):=(unhide HB4).kept K5 (fun hi=>by have:=(unhide HO3).spare b hi;have:=(unhide H).blk.lt;omega);have HR5:Hid (Ws W5 ln2 (nextP s.noPa.over L).2.1):=(unhide HR4).kept K5 ((unhide HR4).apart (unhide HO3).row (by decide));have HK5:Hid (Kept [b] w W5):=(unhide HK4).fresh K5 (fun i hi hl=>by have:=(unhide HO3).spare i hi;omega);clear N5 K5;refine Stp.go ?_))
 constructor
 go_wp2_with fail
 go_ret
 exact⟨v5,ln2,rfl,unhide HO5,unhide HB5,unhide HR5,(unhide HK5).mono (by simp),(unhide HS4).grw⟩
theorem wrote_h (s:Lo) (ln:Value) (b:Nat) (L:List Wi) (n:Nat) (p:Int) (w:World) (h:Sd w b ln s L) (hn:n<8) (hp:¬p<0) (hq:¬p>2147483647) (hO:(n:Int)=s.ow) (hx:¬s.ex=(n:Int)) (hF:¬s.hk=3):Calls Try.prog 53 #[P0 b,.int .i64 n,.int .i64 (s.ops n),.int .i64 p] w (LC b ln w (s.noPa.noOw,L,s.discards p)):=by
 have H:=hide h
 have hnI:(n:Int)<8:=by omega
 have P46:=t46 (n:=n) (by omega)
 have hpd:decide (p<0)=false:=by simpa using hp
 have hqd:decide (p>2147483647)=false:=by simpa using hq
 have HO:=hide hO
 clear hO
 have hxa:decide (s.ex=(n:Int))=false:=nef_a hx
 have hxb:(s.ex == (n:Int))=false:=nef_b hx
 have hxc:(s.ex !=(n:Int))=true:=nef_c hx
 have HF:Hid (decide (s.hk=3)=false):=by simpa [Hid] using hF
 clear hF
 clear h
 go_enter Try.func53,Try.ntmps53
 go_wp2_with (first |(go_at_call 68;refine(none40 s ln b _ ((unhide H).blk)).mono ?_;rintro e W11 ⟨rfl,q11⟩;replace q11:=q11.symm;subst q11;refine Stp.go ?_))
 constructor
 go_wp2_with (first |(go_at_call 76;refine(unhide (P46 _)).mono ?_;rintro e W12 ⟨rfl,q12⟩;replace q12:=q12.symm;subst q12;refine Stp.go ?_))
 constructor
 go_wp2_with (first |(go_at_call 87;refine(discards61 s ln b p _ (unhide H).blk).mono ?_;rintro e W2 ⟨v2,rfl,N2,K2⟩;have HN2:=hide N2;have HB2:Hid (Blk W2 b 108 (s.C ln)):=(unhide H).blk.kept K2 (by simp);have M:Hid (Mm [b] w W2 [(b,108,s.C ln)]):=(Mm.one (unhide H).blk).step K2;have c2:W2.cell? ⟨b,2,none⟩=some (.int .i64 (n:Int)):=(by rw [unhide HO];exact fits_cell (unhide HB2) 2 _ rfl);have co:W2.cell? ⟨b,11+n,none⟩=some (.int .i64 (s.ops n)):=(unhide HB2).ops hn;clear N2 K2;refine Stp.go ?_))
 constructor
 go_wp2_with (first |(refine wpBuildZ (T:=106) (b8 no8) build73 rfl rfl ?_;refine Stp.go ?_))
 constructor
 go_wp2_with (first |(refine wpStK row73 rfl (.tmp 48) (.tmp 46) rfl rfl b (19) 0 (b8 no8) rfl rfl rfl (b8_one _) (unhide M) rfl (Nat.le_of_ble_eq_true rfl) (fun W h=>h.paP no8) ?_;intro W18 N18 KK;replace M:Hid (Mm [b] w W18 [(b,108,s.noPa.C ln)]):=hide N18;clear N18;clear c2 co HB2;have c1:W18.cell? ⟨b,1,none⟩=some (.int .i64 s.ex):=fits_cell ((unhide M).at 0 _ rfl) 1 _ rfl;replace HN2:Hid (Ou w W18 v2 (s.discards p)):=⟨(unhide HN2).row.kept KK (fun k hk=>by have:=(unhide HN2).own k hk;have:=(unhide H).blk.lt;simp;omega),(unhide HN2).own⟩;clear KK;refine Stp.go ?_))
 constructor
 go_wp2_with (first |(refine wpStK1 size3 rfl (.tmp 57) (.const (.int .i64 (-1))) rfl rfl b (2) 0 (.int .i64 (-1)) (⟨rfl,rfl⟩) rfl rfl (unhide M) rfl (show 2+1≤_ from Nat.le_of_ble_eq_true rfl) (rfl) ?_;intro W19 N19 KK;replace M:Hid (Mm [b] w W19 [(b,108,s.noPa.noOw.C ln)]):=hide N19;clear N19;clear c1;replace HN2:Hid (Ou w W19 v2 (s.discards p)):=⟨(unhide HN2).row.kept KK (fun k hk=>by have:=(unhide HN2).own k hk;have:=(unhide H).blk.lt;simp;omega),(unhide HN2).own⟩;clear KK;refine Stp.go ?_))
 constructor
 go_wp2_with (first |(go_at_call 83;refine(flushes49 s.noPa.noOw ln b _ ((unhide M).at 0 _ rfl)).mono ?_;rintro e W20 ⟨rfl,q20⟩;replace q20:=q20.symm;subst q20;rw [show decide (s.noPa.noOw.hk=3)=false from unhide HF];refine Stp.go ?_))
 constructor
 go_wp2_with fail
 go_ret
 have hM:=unhide M
 exact⟨_,ln,rfl,unhide HN2,hM.at 0 _ rfl,(unhide H).row1 hM.kept,hM.kept.mono (by simp),Grw.refl _ _⟩
theorem wrote_i (s:Lo) (ln:Value) (b:Nat) (L:List Wi) (n:Nat) (p:Int) (w:World) (h:Sd w b ln s L) (hn:n<8) (hp:¬p<0) (hq:¬p>2147483647) (hO:(n:Int)=s.ow) (hx:¬s.ex=(n:Int)) (hF:s.hk=3):Calls Try.prog 53 #[P0 b,.int .i64 n,.int .i64 (s.ops n),.int .i64 p] w (LC b ln w (more (s.discards p) (nextP s.noPa.noOw.over L))):=by
 have H:=hide h
 have hnI:(n:Int)<8:=by omega
 have P46:=t46 (n:=n) (by omega)
 have hpd:decide (p<0)=false:=by simpa using hp
 have hqd:decide (p>2147483647)=false:=by simpa using hq
 have HO:=hide hO
 clear hO
 have hxa:decide (s.ex=(n:Int))=false:=nef_a hx
 have hxb:(s.ex == (n:Int))=false:=nef_b hx
 have hxc:(s.ex !=(n:Int))=true:=nef_c hx
 have HF:Hid (decide (s.hk=3)=true):=by simpa [Hid] using hF
 clear hF
 clear h
 go_enter Try.func53,Try.ntmps53
 go_wp2_with (first |(go_at_call 68;refine(none40 s ln b _ ((unhide H).blk)).mono ?_;rintro e W11 ⟨rfl,q11⟩;replace q11:=q11.symm;subst q11;refine Stp.go ?_))
 constructor
 go_wp2_with (first |(go_at_call 76;refine(unhide (P46 _)).mono ?_;rintro e W12 ⟨rfl,q12⟩;replace q12:=q12.symm;subst q12;refine Stp.go ?_))
 constructor
 go_wp2_with (first |(go_at_call 87;refine(discards61 s ln b p _ (unhide H).blk).mono ?_;rintro e W2 ⟨v2,rfl,N2,K2⟩;have HN2:=hide N2;have HB2:Hid (Blk W2 b 108 (s.C ln)):=(unhide H).blk.kept K2 (by simp);have M:Hid (Mm [b] w W2 [(b,108,s.C ln)]):=(Mm.one (unhide H).blk).step K2;have c2:W2.cell? ⟨b,2,none⟩=some (.int .i64 (n:Int)):=(by rw [unhide HO];exact fits_cell (unhide HB2) 2 _ rfl);have co:W2.cell? ⟨b,11+n,none⟩=some (.int .i64 (s.ops n)):=(unhide HB2).ops hn;clear N2 K2;refine Stp.go ?_))
 constructor
 go_wp2_with (first |(refine wpBuildZ (T:=106) (b8 no8) build73 rfl rfl ?_;refine Stp.go ?_))
 constructor
 go_wp2_with (first |(refine wpStK row73 rfl (.tmp 48) (.tmp 46) rfl rfl b (19) 0 (b8 no8) rfl rfl rfl (b8_one _) (unhide M) rfl (Nat.le_of_ble_eq_true rfl) (fun W h=>h.paP no8) ?_;intro W18 N18 KK;replace M:Hid (Mm [b] w W18 [(b,108,s.noPa.C ln)]):=hide N18;clear N18;clear c2 co HB2;have c1:W18.cell? ⟨b,1,none⟩=some (.int .i64 s.ex):=fits_cell ((unhide M).at 0 _ rfl) 1 _ rfl;replace HN2:Hid (Ou w W18 v2 (s.discards p)):=⟨(unhide HN2).row.kept KK (fun k hk=>by have:=(unhide HN2).own k hk;have:=(unhide H).blk.lt;simp;omega),(unhide HN2).own⟩;clear KK;refine Stp.go ?_))
 constructor
 go_wp2_with (first |(refine wpStK1 size3 rfl (.tmp 57) (.const (.int .i64 (-1))) rfl rfl b (2) 0 (.int .i64 (-1)) (⟨rfl,rfl⟩) rfl rfl (unhide M) rfl (show 2+1≤_ from Nat.le_of_ble_eq_true rfl) (rfl) ?_;intro W19 N19 KK;replace M:Hid (Mm [b] w W19 [(b,108,s.noPa.noOw.C ln)]):=hide N19;clear N19;clear c1;replace HN2:Hid (Ou w W19 v2 (s.discards p)):=⟨(unhide HN2).row.kept KK (fun k hk=>by have:=(unhide HN2).own k hk;have:=(unhide H).blk.lt;simp;omega),(unhide HN2).own⟩;clear KK;refine Stp.go ?_))
 constructor
 go_wp2_with (first |(go_at_call 83;refine(flushes49 s.noPa.noOw ln b _ ((unhide M).at 0 _ rfl)).mono ?_;rintro e W20 ⟨rfl,q20⟩;replace q20:=q20.symm;subst q20;rw [show decide (s.noPa.noOw.hk=3)=true from unhide HF];refine Stp.go ?_))
 constructor
 go_wp2_with (first |(go_at_call 82;refine(done60 s.noPa.noOw ln b L _ ((unhide M).at 0 _ rfl) (noOw_ok (noPa_ok (unhide H).ok)) ((unhide H).row1 (unhide M).kept) (unhide H).all (by show 0≤s.op∧s.op+L.length≤1000000;have:=(unhide H).op0;have:=(unhide H).op1;omega) (by have:=(unhide H).len;omega)).mono ?_;rintro e W30 ⟨v4,ln2,rfl,N4,B4,R4,K4,S4⟩;have HN4:=hide N4.row;have HO3:Hid (Ou w W30 v2 (s.discards p)):=(unhide HN2).kept K4 (fun k hk=>by have:=(unhide H).blk.lt;simp;omega);have HB4:=hide B4;have HR4:=hide R4;have HK4:Hid (Kept [b] w W30):=(unhide M).kept.trans K4;have HS4:=hide S4;clear N4 B4 R4 K4 S4 HN2;refine Stp.go ?_))
 constructor
 go_wp2_with (first |(refine wpAppN el28 rfl (.tmp 60) (.tmp 62) rfl v2 _ _ rfl (unhide HO3) v4 _ _ rfl (unhide HN4) (odC_one _) (by have:=nextP_len L s.noPa.noOw.over;have:=(unhide H).len;have:=discards_len s p;omega) (max1000 (by have:=nextP_len L s.noPa.noOw.over;have:=(unhide H).len;have:=discards_len s p;omega)) (unhide HK4).size ?_;intro v5 W5 N5 K5;have HO5:Hid (Ou w W5 v5 (s.discards p++(nextP s.noPa.noOw.over L).2.2)):=New.app N5;have HB5:Hid (Blk W5 b 108 ((nextP s.noPa.noOw.over L).1.C ln2)):=(unhide HB4).kept K5 (fun hi=>by have:=(unhide HO3).spare b hi;have:=(unhide H).blk.lt;omega);have HR5:Hid (Ws W5 ln2 (nextP s.noPa.noOw.over L).2.1):=(unhide HR4).kept K5 ((unhide HR4).apart (unhide HO3).row (by decide));have HK5:Hid (Kept [b] w W5):=(unhide HK4).fresh K5 (fun i hi hl=>by have:=(unhide HO3).spare i hi;omega);clear N5 K5;refine Stp.go ?_))
 constructor
 go_wp2_with fail
 go_ret
 exact⟨v5,ln2,rfl,unhide HO5,unhide HB5,unhide HR5,(unhide HK5).mono (by simp),(unhide HS4).grw⟩
theorem wrote31 (s:Lo) (ln:Value) (b:Nat) (L:List Wi) (m c p:Int) (w:World) (h:Sd w b ln s L):Calls Try.prog 53 #[P0 b,.int .i64 m,.int .i64 c,.int .i64 p] w (LC b ln w (wroteP s L m c p)):=by
 unfold wroteP
 cases hm:isN m with
 | false=>rw [if_neg (by simp)];exact wrote_a s ln b L m c p w h hm
 | true=>
   have h1:0≤m∧m<8:=by simpa [isN] using hm
   obtain⟨n,rfl⟩:∃n:Nat,m=n:=⟨m.toNat,by omega⟩
   have hn:n<8:=by omega
   by_cases hp:p<0
   · rw [if_neg (by simp;omega)];exact wrote_b s ln b L n c p w h hn hp
   by_cases hq:p>2147483647
   · rw [if_neg (by simp;omega)];exact wrote_c s ln b L n c p w h hn hp hq
   rw [if_pos ⟨rfl,by omega,by omega⟩]
   simp only [Int.toNat_natCast]
   unfold wroteN
   by_cases hO:(n:Int)=s.ow
   · by_cases hc:c=s.ops n
     · subst hc
       rw [if_pos ⟨hO,rfl⟩]
       by_cases hx:s.ex=(n:Int)
       · rw [if_pos hx]
         by_cases hF:s.hk=3
         · rw [if_pos hF];exact wrote_g s ln b L n p w h hn hp hq hO hx hF
         · rw [if_neg hF];exact wrote_f s ln b L n p w h hn hp hq hO hx hF
       · rw [if_neg hx]
         by_cases hF:s.hk=3
         · rw [if_pos hF];exact wrote_i s ln b L n p w h hn hp hq hO hx hF
         · rw [if_neg hF];exact wrote_h s ln b L n p w h hn hp hq hO hx hF
     · rw [if_neg (by simp [hc])];exact wrote_e s ln b L n c p w h hn hp hq hO hc
   · rw [if_neg (by simp [hO])];exact wrote_d s ln b L n c p w h hn hp hq hO
end Go.Proofs.Ytbigongmlpoahaa
