import Derived.Test.YtcnfapnfmnolbaaGreatRq22
set_option maxHeartbeats 40000000
set_option maxRecDepth 1000000
namespace Go.Proofs.YtcnfapnfmnolbaaGreat
open Go.RowKit
variable {a b bag:LI}{es:LL}{B i n p r:Nat}{x y:Nat->Rat}{v:Value}{w w':World}
def xa(v:Int)(bs:LL)(ps:LI)(i:Nat):Bool:=decide (v∈bs.getD i [])&&!(decide (0<=ps.getD i 0)&&decide (v∈bs.getD (ps.getD i 0).toNat []))
def zA(v:Int)(bs:LL)(ps:LI):Nat->Nat
 |0=>0
 |n+1=>zA v bs ps n+if xa v bs ps n then 1 else 0
def uG(k:Int)(bs:LL)(ps:LI):Bool:=(List.range k.toNat).all λv=>decide (zA (v:Int) bs ps bs.length=1)
def zc(h:Int)(e:LI)(bs:LL):Bool:=if e.length=0 then decide (h=-1) else decide (0<=h)&&decide (h<(bs.length:Int))&&e.all λx=>decide (x∈bs.getD h.toNat [])
def yQ(hs:LI)(es bs:LL):Bool:=decide (hs.length=es.length)&&(List.range es.length).all λi=>zc (hs.getD i 0) (es.getD i []) bs
theorem ks(v:Int)(bs:LL)(ps:LI):∀n,zA v bs ps n<=n
 |0=>nR _
 |n+1=>by
  have:=ks v bs ps n;unfold zA;split <;> omega
def ku(ps:LI)(n:Nat):Prop:=ps.length=n/\∀i,i<n->ps.getD i 0=-1∨(0<=ps.getD i 0/\ps.getD i 0<(n:Int))
theorem qEJ{ps:LI}(h:zw ps n=true):ku ps n:=by
 unfold zw at h;rw[bV,dE,aT]at h;have hl:ps.length=n:=Oo;refine⟨hl,λi hi=>?_⟩;have:=h.2 i (by simpa[hl]using hi);unfold yc at this;rw[Bool.or_eq_true,bV,dE,dE,dE]at this;omega
theorem Js(w:World)(vb vp vh vw:Value)(x n d:Int)(bs:LL)(ps:LI)(hb:ISS w vb bs)(hl:qT bs)(a8:bs.length<=12)(hp:IS w vp ps)(c8:ku ps bs.length):
 Cl 98 #[ai x,.agg #[vb,vp,vh,vw,ai n,ai d]] w λe w'=>e=.returned (ai (zA x bs ps bs.length))/\Bl w w':=by
 have U:Hh (Bl w (w.alloc (.cells #[vb,vp,vh,vw,ai n,ai d] 38))):=ay (aK);have c0:(w.alloc (.cells #[vb,vp,vh,vw,ai n,ai d] 38)).cell? (az w.1.size 0)=some vb:=by rw[bE _ _ _ _ rfl];rfl
 have c1:(w.alloc (.cells #[vb,vp,vh,vw,ai n,ai d] 38)).cell? (az w.1.size 1)=some vp:=by rw[bE _ _ _ _ rfl];rfl
 obtain⟨W,hW⟩:=Ex (w.alloc (.cells #[vb,vp,vh,vw,ai n,ai d] 38));rw[<-hW]at U c0 c1;obtain⟨a9,V⟩:=c8;have c9:=hp.below U.o;have d0:=hb.below U.o;clear hb hp;obtain⟨a,cap,rfl,hc⟩:=d0;obtain⟨a2,d9,rfl,a6⟩:=c9;rw[a9]at a6 c1;obtain⟨d1,b0⟩:=hl;have HC:=ay hc;have b1:=ay a6;have HL:=ay b0;have b7:=ay V;have HT:Hh (∀i,zA x bs ps (i+1)=zA x bs ps i+if xa x bs ps i then 1 else 0):=ay λi=>rfl;have d2:=ay (ks x bs ps);have d3:Hh (∀i,xa x bs ps i=(decide (x∈bs.getD i [])&&!(decide (0<=ps.getD i 0)&&decide (x∈bs.getD (ps.getD i 0).toNat [])))):=ay λi=>rfl;have d4:Hh (zA x bs ps 0=0):=ay rfl;obtain⟨m,hm⟩:=Ex bs.length;have a5:ps.length=m:=Oo;rw[<-hm]at HC b1 b7 d1 a8 c0 c1 hW ⊢;rw[a5]at hW ⊢;clear hc a6 b0 V a9 hm a5;generalize zA x bs ps=TN at *;go_enter Tryz.func98,Tryz.ntmps98;go_upto_region 1 with fail;rw[<-hW];clear hW;go_wp2_with fail;go_loop [5,13] (λs t=>∃j:Nat,j<=m/\t=ai j/\s=ai (TN j)) (λ_ t=>m-(intOf t).toNat);exact⟨0,nZ _,rfl,by rw[d4.o];rfl⟩;obtain⟨j,hj,rfl,rfl⟩:=hrel;by_cases a7:j<m
 ·have i1:(j:Int)<(m:Int):=Oo;rcases HC.o with h0|⟨b,o,rfl,I⟩;omega;rcases b1.o with h0|⟨b2,o2,rfl,K⟩;omega;have d5:=ay I;obtain⟨u,e1,hu⟩:=I j a7;have e2:=K j a7;have b8:=ay (yI W u (bs.getD j []) x hu (HL.o j));obtain⟨a3,e0,rfl,-⟩:=hu;have V:=b7.o j a7;have O:=d3.o j;have M:=HT.o j;have e5:=d2.o j;clear I K;generalize (bs.getD j []).length=lj at *;generalize decide (x∈bs.getD j [])=f1 at *;generalize ps.getD j 0=y at *;generalize xa x bs ps j=tp at *;rcases V with rfl|⟨d6,e6⟩
  ·rw[show(decide ((0:Int)<=-1))=false by decide,Bool.false_and,Bool.not_false,Bool.and_true]at O;subst O;go_wp2_with fail;refine b8.o.mono ?_;rintro e w1 ⟨rfl,b9⟩;subst w1;cases tp
   ·go_wp2_with fail;go_round;exact⟨j+1,Oo,Gg,by rw[M];simp⟩;exact Im
   go_wp2_with fail;go_round;exact⟨j+1,Oo,Gg,by rw[M];simp⟩;exact Im
  obtain⟨z,rfl⟩:∃z:Nat,y=(z:Int):=⟨y.toNat,Oo⟩;have d7:z<m:=Oo;obtain⟨u2,e3,c7⟩:=d5.o z d7;rw[show((z:Int)).toNat=z by omega]at O;have d8:=ay (yI W u2 (bs.getD z []) x c7 (HL.o z));obtain⟨a4,e4,rfl,-⟩:=c7;generalize (bs.getD z []).length=lz at *;generalize decide (x∈bs.getD z [])=f2 at *;rw[decide_eq_true d6,Bool.true_and]at O;go_wp2_with fail;refine d8.o.mono ?_;rintro e w1 ⟨rfl,b9⟩;subst w1;go_wp2_with fail;refine b8.o.mono ?_;rintro e w1 ⟨rfl,b9⟩;subst w1;cases f1 <;> cases f2 <;> (subst O)
  ·go_wp2_with fail;go_round;exact⟨j+1,Oo,Gg,by rw[M];simp⟩;exact Im
  ·go_wp2_with fail;go_round;exact⟨j+1,Oo,Gg,by rw[M];simp⟩;exact Im
  ·go_wp2_with fail;go_round;exact⟨j+1,Oo,Gg,by rw[M];simp⟩;exact Im
  go_wp2_with fail;go_round;exact⟨j+1,Oo,Gg,by rw[M];simp⟩;exact Im
 obtain rfl:j=m:=Oo;have i1:¬((j:Int)<(j:Int)):=Oo;go_wp2_with fail;go_ret;exact⟨rfl,U.o⟩
theorem UU(w:World)(vb vp O U:Value)(k n d:Int)(bs:LL)(ps:LI)(hk:k<=6)(hb:ISS w vb bs)(hl:qT bs)(a4:bs.length<=12)(hp:IS w vp ps)(K:ku ps bs.length):
 Cl 69 #[ai k,.agg #[vb,vp,O,U,ai n,ai d]] w λe w'=>e=.returned (.bool (uG k bs ps))/\Bl w w':=by
 have V:Hh (Bl w (w.alloc (.cells #[vb,vp,O,U,ai n,ai d] 38))):=ay (aK);have c0:(w.alloc (.cells #[vb,vp,O,U,ai n,ai d] 38)).cell? (az w.1.size 0)=some vb:=by rw[bE _ _ _ _ rfl];rfl
 have c1:(w.alloc (.cells #[vb,vp,O,U,ai n,ai d] 38)).cell? (az w.1.size 1)=some vp:=by rw[bE _ _ _ _ rfl];rfl
 have c2:(w.alloc (.cells #[vb,vp,O,U,ai n,ai d] 38)).cell? (az w.1.size 2)=some O:=by rw[bE _ _ _ _ rfl];rfl
 have c3:(w.alloc (.cells #[vb,vp,O,U,ai n,ai d] 38)).cell? (az w.1.size 3)=some U:=by rw[bE _ _ _ _ rfl];rfl
 have c4:(w.alloc (.cells #[vb,vp,O,U,ai n,ai d] 38)).cell? (az w.1.size 4)=some (ai n):=by rw[bE _ _ _ _ rfl];rfl
 have c5:(w.alloc (.cells #[vb,vp,O,U,ai n,ai d] 38)).cell? (az w.1.size 5)=some (ai d):=by rw[bE _ _ _ _ rfl];rfl
 obtain⟨W,hW⟩:=Ex (w.alloc (.cells #[vb,vp,O,U,ai n,ai d] 38));rw[<-hW]at V c0 c1 c2 c3 c4 c5;have HP:=ay (hp.below V.o);have a5:=ay (hb.below V.o);have HL:=ay hl;have a6:=ay K;obtain⟨res,M⟩:=Ex (uG k bs ps);rw[<-M];have HF:Hh (∀v:Nat,v<k.toNat->zA (v:Int) bs ps bs.length≠1->res=false):=ay λv hv e=>by
  rw[M];unfold uG;exact qf hv (by simpa using e)
 have HT:Hh ((∀v:Nat,v<k.toNat->zA (v:Int) bs ps bs.length=1)->res=true):=ay λh1=>by
  rw[M];unfold uG;exact qh (λv hv=>by simpa using h1 v hv)
 clear hb hp hl K M;go_enter Tryz.func69,Tryz.ntmps69;go_upto_region 1 with fail;rw[<-hW];clear hW;go_wp2_with fail;go_loopw [7] (λt wr=>∃v:Nat,(v=0∨v<=k.toNat)/\t=ai v/\Bl W wr/\Hh (∀i:Nat,i<v->zA (i:Int) bs ps bs.length=1)) (λt _=>k.toNat-(intOf t).toNat);exact⟨0,Or.inl rfl,rfl,bJ _ _,ay (λi hi=>Oo)⟩;obtain⟨v,hv,rfl,I,K⟩:=hrel;by_cases a7:(v:Int)<k
 ·have d0:=qJ I c0;have d1:=qJ I c1;have d2:=qJ I c2;have d3:=qJ I c3;have d4:=qJ I c4;have d5:=qJ I c5;have KT:=ay (Js wr vb vp O U (v:Int) n d bs ps (a5.o.below I) HL.o a4 (HP.o.below I) a6.o);have fin:=HF.o v Oo;have nxt:zA (v:Int) bs ps bs.length=1->Hh (∀i:Nat,i<v+1->zA (i:Int) bs ps bs.length=1):=λe i hi=>by
   by_cases e2:i=v;rw[e2];exact e;exact K.o i Oo
  have a8:=ks (v:Int) bs ps bs.length;clear K;generalize zA (v:Int) bs ps bs.length=tn at *;by_cases ht:tn=1
  ·have hf:=nxt ht;subst ht;clear fin nxt;go_wp2_with fail;refine KT.o.mono ?_;rintro e w1 ⟨rfl,a3⟩;go_wp2_with fail;go_roundw;exact⟨v+1,Oo,Gg,bt I a3,hf⟩;exact Im
  obtain rfl:=fin ht;have e1:((tn:Int) != 1)=true:=Sy;clear nxt;go_wp2_with fail;refine KT.o.mono ?_;rintro e w1 ⟨rfl,a3⟩;go_wp2_with fail;go_ret;exact⟨rfl,bt V.o (bt I a3)⟩
 obtain rfl:=HT.o (λi hi=>K.o i Oo);clear K;go_wp2_with fail;go_ret;exact⟨rfl,bt V.o I⟩
theorem qEK{I:LI}:decide ((plc (λi=>decide (I.getD i 0∈bag)) I.length).length=I.length)=I.all λx=>decide (x∈bag):=by
 have h:(plc (λi=>decide (I.getD i 0∈bag)) I.length).length=I.length↔∀i,i<I.length->I.getD i 0∈bag:=by
  unfold plc;rw[lM];have e:I.length=(List.range I.length).length:=Ss;constructor
  ·intro h i hi;have M:((List.range I.length).filter λi=>decide (I.getD i 0∈bag)).length=(List.range I.length).length:=by rw[h];exact e
   have:=(List.length_filter_eq_length_iff.1 M) i (by simpa using hi);simpa using this
  intro h;have:((List.range I.length).filter λi=>decide (I.getD i 0∈bag)).length=(List.range I.length).length:=List.length_filter_eq_length_iff.2 (λi hi=>by simpa using h i (by simpa using hi));rw[this,<-e]
 cases hb:(I.all λx=>decide (x∈bag))
 refine decide_eq_false λO=>?_;rw[List.all_eq_false]at hb;obtain⟨x,U,K⟩:=hb;obtain⟨i,hi,e⟩:=yV U;exact K (by rw[<-e];simpa using h.1 O i hi);refine decide_eq_true (h.2 λi hi=>?_);rw[aT]at hb;simpa using hb _ (xz hi)
theorem Jt(w:World)(ve vb:Value)(h:Int)(e:LI)(bs:LL)(he:IS w ve e)(hle:e.length<=1099511627776)(hb:ISS w vb bs)(hl:qT bs):
 Cl 99 #[ai h,ve,vb] w λr w'=>r=.returned (.bool (zc h e bs))/\Bl w w':=by
 have V:=ay he;obtain⟨a,cap,rfl,-⟩:=he;obtain⟨a2,a7,rfl,hc⟩:=hb;obtain⟨a9,a4⟩:=hl;obtain⟨res,I⟩:=Ex (zc h e bs);rw[<-I];by_cases h0:e.length=0
 ·have K:res=decide (h=-1):=by rw[I];unfold zc;rw[if_pos h0]
  clear I hc V;rw[h0];by_cases U:h=-1
  ·rw[decide_eq_true U]at K;subst U K;go_enter Tryz.func99,Tryz.ntmps99;go_wp2_with fail;go_ret;exact⟨rfl,bJ _ _⟩
  rw[decide_eq_false U]at K;subst K;have e1:(h == -1)=false:=by simpa using U
  go_enter Tryz.func99,Tryz.ntmps99;go_wp2_with fail;go_ret;exact⟨qK Ss,bJ _ _⟩
 have K:res=(decide (0<=h)&&decide (h<(bs.length:Int))&&e.all λx=>decide (x∈bs.getD h.toNat [])):=by rw[I];unfold zc;rw[if_neg h0]
 have d0:¬((e.length:Int)=0):=Oo;clear I;by_cases U:0<=h
 case neg=>
  rw[decide_eq_false U,Bool.false_and,Bool.false_and]at K;subst K;clear hc V;generalize e.length=n at *;go_enter Tryz.func99,Tryz.ntmps99;go_wp2_with fail;go_ret;exact⟨rfl,bJ _ _⟩
 by_cases h2:h<(bs.length:Int)
 case neg=>
  rw[decide_eq_false h2,Bool.and_false,Bool.false_and]at K;subst K;clear hc V;generalize e.length=n at *;go_enter Tryz.func99,Tryz.ntmps99;go_wp2_with fail;go_ret;exact⟨rfl,bJ _ _⟩
 rw[decide_eq_true U,decide_eq_true h2,Bool.true_and,Bool.true_and]at K;obtain⟨z,rfl⟩:∃z:Nat,h=(z:Int):=⟨h.toNat,Oo⟩;rw[show((z:Int)).toNat=z by omega,<-qEK]at K;rcases hc with b0|⟨b,o,rfl,M⟩;omega;obtain⟨u,c1,hu⟩:=M z Oo;have KP:=ay (xI w _ u e (bs.getD z []) V.o hu hle (a4 z));obtain⟨a3,a8,rfl,-⟩:=hu;have hlen:=xp (λi=>decide (e.getD i 0∈bs.getD z [])) e.length;clear M V;generalize (bs.getD z []).length=lz at *;generalize plc (λi=>decide (e.getD i 0∈bs.getD z [])) e.length=pl at *;have HR:=ay K;clear K a4;generalize e.length=n at *;generalize bs.length=nb at *;go_enter Tryz.func99,Tryz.ntmps99;go_wp2_with fail;refine KP.o.mono ?_;rintro r w1 ⟨v,rfl,O,a6⟩;obtain⟨av,cv,rfl⟩:∃a c,v=.slice a pl.length c:=by
  rcases O.2 with ⟨rfl,hn⟩|⟨g,cap,cur,rfl,_⟩;exact⟨none,0,by rw[hn]⟩;exact⟨_,cap,rfl⟩
 clear O;generalize pl.length=m at *;go_wp2_with fail;go_ret;refine⟨qK ?_,a6⟩;rw[HR.o];by_cases a5:m=n;subst a5;simp;rw[decide_eq_false a5];simp;omega
theorem Yz(w:World)(vh ve vb:Value)(hs:LI)(es bs:LL)(hh:IS w vh hs)(he:ISS w ve es)(hle:qT es)(hb:ISS w vb bs)(hl:qT bs):
 Cl 70 #[vh,ve,vb] w λr w'=>r=.returned (.bool (yQ hs es bs))/\Bl w w':=by
 have a7:=ay hb;have HL:=ay hl;obtain⟨ab,b0,rfl,-⟩:=hb;obtain⟨ah,b1,rfl,a5⟩:=hh;obtain⟨a,cap,rfl,hc⟩:=he;obtain⟨a8,a6⟩:=hle;obtain⟨res,M⟩:=Ex (yQ hs es bs);rw[<-M];have HR:=ay M;have HC:=ay hc;have V:=ay a5;have a9:=ay a6;clear hc a5 a6 M hl;by_cases hq:hs.length=es.length
 case neg=>
  have hf:res=false:=by rw[HR.o];unfold yQ;rw[decide_eq_false hq];rfl
  subst hf;have i1:((hs.length:Int) != (es.length:Int))=true:=Sy;generalize hs.length=n1 at *;generalize es.length=n2 at *;go_enter Tryz.func70,Tryz.ntmps70;go_wp2_with fail;go_ret;exact⟨rfl,bJ _ _⟩
 have HF:Hh (∀j,j<es.length->zc (hs.getD j 0) (es.getD j []) bs=false->res=false):=ay λj hj e=>by
  rw[HR.o];unfold yQ;rw[qf hj e];simp
 have HT:Hh ((∀j,j<es.length->zc (hs.getD j 0) (es.getD j []) bs=true)->res=true):=ay λh1=>by
  rw[HR.o];unfold yQ;rw[decide_eq_true hq,qh h1];rfl
 clear HR;rw[hq]at V ⊢;obtain⟨n,hn⟩:=Ex es.length;have d1:((n:Int) != (n:Int))=false:=Ss;rw[<-hn]at HF HT a8 HC V ⊢;clear hn hq;go_enter Tryz.func70,Tryz.ntmps70;go_wp2_with fail;go_loopw [16] (λt wr=>∃j:Nat,j<=n/\t=ai j/\Bl w wr/\Hh (∀i,i<j->zc (hs.getD i 0) (es.getD i []) bs=true)) (λt _=>n-(intOf t).toNat);exact⟨0,nZ _,rfl,bJ _ _,ay (λi hi=>Oo)⟩;obtain⟨j,hj,rfl,I,U⟩:=hrel;by_cases a3:j<n
 ·have i1:(j:Int)<(n:Int):=Oo;rcases HC.o with h0|⟨b,o,rfl,O⟩;omega;rcases V.o with h0|⟨b2,o2,rfl,K⟩;omega;obtain⟨u,e1,hu⟩:=O j a3;have c1:=qJ I e1;have c2:=qJ I (K j a3);have KH:=ay (Jt wr u _ (hs.getD j 0) (es.getD j []) bs (hu.below I) (a9.o j) (a7.o.below I) HL.o);obtain⟨a1,b7,rfl,-⟩:=hu;have fin:=HF.o j a3;have nxt:zc (hs.getD j 0) (es.getD j []) bs=true->Hh (∀i,i<j+1->zc (hs.getD i 0) (es.getD i []) bs=true):=λe i hi=>by
   by_cases e2:i=j;rw[e2];exact e;exact U.o i Oo
  clear O K U e1;generalize (es.getD j []).length=m at *;generalize zc (hs.getD j 0) (es.getD j []) bs=y at *;generalize hs.getD j 0=x at *;cases y
  ·obtain rfl:=fin rfl;clear nxt;go_wp2_with fail;refine KH.o.mono ?_;rintro e w1 ⟨rfl,a4⟩;go_wp2_with fail;go_ret;exact⟨rfl,bt I a4⟩
  have hf:=nxt rfl;clear fin nxt;go_wp2_with fail;refine KH.o.mono ?_;rintro e w1 ⟨rfl,a4⟩;go_wp2_with fail;go_roundw;exact⟨j+1,Oo,Gg,bt I a4,hf⟩;exact Im
 obtain rfl:j=n:=Oo;obtain rfl:=HT.o U.o;have i1:¬((j:Int)<(j:Int)):=Oo;clear U;go_wp2_with fail;go_ret;exact⟨rfl,I⟩
def dcs(ps:List (Value×Dem)):List Value:=ps.flatMap λp=>[p.1,.bool p.2.up,ai p.2.bd]
def pd0:Value×Dem:=(undef,yw)
theorem qA3(ps:List (Value×Dem)):(dcs ps).length=ps.length*3:=by
 induction ps with
 |nil=>rfl
 |cons p ps ih=>
  show([p.1,.bool p.2.up,ai p.2.bd]++dcs ps).length=_;rw[lA,ih,List.length_cons];simp only[List.length_cons,List.length_nil];omega
theorem JG(ps:List (Value×Dem))(p:Value×Dem):dcs (ps++[p])=dcs ps++[p.1,.bool p.2.up,ai p.2.bd]:=by
 simp[dcs]
theorem ZP:∀(ps:List (Value×Dem)) (i:Nat),i<ps.length->(dcs ps)[i*3]?=some (ps.getD i pd0).1/\(dcs ps)[i*3+1]?=some (.bool (ps.getD i pd0).2.up)/\(dcs ps)[i*3+2]?=some (ai (ps.getD i pd0).2.bd)
 |[],i,h=>by simp at h
 |p::ps,0,_=>⟨rfl,rfl,rfl⟩
 |p::ps,i+1,h=>by
  have I:i<ps.length:=by simpa using h
  have:=ZP ps i I;have e:dcs (p::ps)=[p.1,.bool p.2.up,ai p.2.bd]++dcs ps:=rfl;rw[e];rw[bQ Sy,bQ Sy,bQ Sy];simp only[List.length_cons,List.length_nil];rw[show(i+1)*3-(0+1+1+1)=i*3 by omega,show(i+1)*3+1-(0+1+1+1)=i*3+1 by omega,show(i+1)*3+2-(0+1+1+1)=i*3+2 by omega];exact this
structure DP(w:World)(v:Value)(ps:List (Value×Dem)):Prop where
 sl:∃a cap,v=.slice a ps.length cap/\(ps.length=0∨∃b o,a=some (az b o)/\∀j u,(dcs ps)[j]?=some u->w.cell? (az b (o+j))=some u)
 each:∀p∈ps,IntsAt w p.1 p.2.pl
theorem DP.below{ps:List (Value×Dem)}(h:DP w v ps)(hb:Bl w w'):DP w' v ps:=by
 obtain⟨⟨a,cap,e,I⟩,M⟩:=h;refine⟨⟨a,cap,e,?_⟩,λp O=>(M p O).below hb⟩;rcases I with U|⟨b,o,V,I⟩;exact Or.inl U;exact Or.inr ⟨b,o,V,λj u K=>(hb.cell (p:=(az b (o+j))) (bL w _ (I j u K))).trans (I j u K)⟩
theorem qCm{ps:List (Value×Dem)}(h:w.ownsRow B 183 3 v ps.length (dcs ps))(O:∀p∈ps,IntsAt w p.1 p.2.pl):DP w v ps:=by
 refine⟨?_,O⟩;rcases h.2 with ⟨rfl,K⟩|⟨g,cap,cur,rfl,U,V,hn,-,-,ht⟩;exact⟨none,0,by rw[K],Or.inl K⟩;refine⟨_,cap,rfl,Or.inr ⟨g,0,rfl,λj u M=>?_⟩⟩;have I:j<ps.length*3:=by
  have:=(List.getElem?_eq_some_iff.1 M).1;rw[qA3]at this;exact this
 rw[cell_of_row _ _ _ _ _ _ V,Nat.zero_add,<-M,<-ht,List.getElem?_take_of_lt I,Array.getElem?_toList]
theorem qFD{ps:List (Value×Dem)}(h:DP w v ps):∀u∈dcs ps,u.oneCell'=true:=by
 intro u K;obtain⟨p,M,I⟩:=List.mem_flatMap.1 K;obtain⟨a,cap,e,-⟩:=h.each p M;simp only[List.mem_cons,List.not_mem_nil,or_false]at I;rcases I with rfl|rfl|rfl;rw[e];rfl;rfl;rfl
theorem jw(ps:List (Value×Dem))(i:Nat):(ps.map Prod.snd).getD i yw=(ps.getD i pd0).2:=by
 rw[gD,bK,gD];cases ps[i]? <;> rfl
def BestAt(w:World)(n:Nat)(all:List Dem)(v:Value):Option (Nat->Rat)->Prop
 |none=>∃a cap,v=.slice a 0 cap
 |some b=>IR w v (prs n b)/\InP n all b/\Parts n b
theorem IR.below'{l:List (Int×Int)}(h:IR w v l)(hb:Bl w w'):IR w' v l:=by
 obtain⟨a,cap,e,h⟩:=h;refine⟨a,cap,e,?_⟩;rcases h with M|⟨b,o,O,I⟩;exact Or.inl M;exact Or.inr ⟨b,o,O,λj K=>⟨(hb.cell (p:=(az b (o+j*2))) (bL w _ (I j K).1)).trans (I j K).1,(hb.cell (p:=(az b (o+j*2+1))) (bL w _ (I j K).2)).trans (I j K).2⟩⟩
theorem BestAt.below{all:List Dem}{b:Option (Nat->Rat)}(h:BestAt w n all v b)(hb:Bl w w'):BestAt w' n all v b:=by
 cases b with
 |none=>exact h
 |some b=>exact⟨h.1.below' hb,h.2⟩
def xn(n:Nat):List Dem:=(List.range n).map λi=>⟨[i],false,0⟩
def xB(L:List (List Nat)):List Dem:=L.map λl=>⟨l,false,1⟩
def jL(bag:LI)(es:LL):List Dem:=xB (qQ bag es)++xn es.length
theorem qA0(hi:i<n)(b:Bool)(z:Int)(x:Nat->Rat):(Dem.dm ⟨[i],b,z⟩).at n x=x i:=by
 show Cov.sm n (λj=>(if j∈[i] then 1 else 0)*x j)=x i;rw[Cov.sm_single hi (λj _ I=>by rw[if_neg (λh=>I (List.mem_singleton.1 h))];grind),if_pos (List.mem_singleton.2 rfl)];grind
theorem JD:(∀D∈xn n,D.dm.meets n x)↔∀i,i<n->0<=x i:=by
 constructor;intro h i hi;have:=h ⟨[i],false,0⟩ (List.mem_map.2 ⟨i,List.mem_range.2 hi,rfl⟩);have e:=qA0 hi false 0 x;unfold Cov.Dm.meets at this;rw[e]at this;exact this;intro h D I;obtain⟨i,hi,rfl⟩:=List.mem_map.1 I;have hi:=List.mem_range.1 hi;unfold Cov.Dm.meets;rw[qA0 hi];exact h i hi
theorem qAQ{L:List (List Nat)}{l:List Nat}(h:l∈L):∃r,r<L.length/\L.getD r []=l:=ZB h
theorem Vj:InP es.length (jL bag es) x↔Cov.Cover bag.length es.length (inc (qQ bag es)) x:=by
 unfold InP jL Cov.Cover;rw[show(∀D∈xB (qQ bag es)++xn es.length,D.dm.meets es.length x)↔(∀D∈xB (qQ bag es),D.dm.meets es.length x)/\(∀D∈xn es.length,D.dm.meets es.length x) from
  ⟨λh=>⟨λD I=>h D (List.mem_append.2 (Or.inl I)),λD I=>h D (List.mem_append.2 (Or.inr I))⟩,λh D I=>(List.mem_append.1 I).elim (h.1 D) (h.2 D)⟩,JD,and_comm]
 refine and_congr Iff.rfl ?_;constructor;intro h r K;rw[<-yW bag es]at K;exact h ⟨(qQ bag es).getD r [],false,1⟩ (List.mem_map.2 ⟨_,xr K,rfl⟩);intro h D I;obtain⟨l,hl,rfl⟩:=List.mem_map.1 I;obtain⟨r,K,rfl⟩:=qAQ hl;rw[yW]at K;exact h r K
theorem qBm(h:zS bag.length es.length (inc (qQ bag es)) x):ZC es.length false (jL bag es) x:=
 ⟨Vj.2 h.1,λy I=>h.2 y (Vj.1 I)⟩
theorem qCj(p:Nat->Bool)(k:Nat):(plN p k).Nodup:=List.Pairwise.filter _ List.nodup_range
theorem qCk(I:es.length<=7):∀D∈jL bag es,zj es.length D:=by
 intro D K;rcases List.mem_append.1 K with h|h;obtain⟨l,hl,rfl⟩:=List.mem_map.1 h;obtain⟨v,_,rfl⟩:=List.mem_map.1 hl;exact⟨qCj _ _,λi hi=>(vz.1 hi).1,bM (Yp _ _) I,Or.inr rfl⟩;obtain⟨i,hi,rfl⟩:=List.mem_map.1 h;exact⟨Ss,λj M=>by rw[List.mem_singleton.1 M];exact List.mem_range.1 hi,Ss,Or.inl rfl⟩
theorem qCl(h:∀i,i<n->x i=y i):prs n x=prs n y:=by
 unfold prs;exact List.map_congr_left (λi hi=>by rw[h i (List.mem_range.1 hi)])
def qP(bag e:LI):LI:=e.filter λv=>decide (v∈bag)
def yE(a b:LI):Bool:=a.all λx=>decide (x∈b)
def kx(bag:LI)(es:LL)(i j:Nat):Bool:=
 decide (j≠i)&&yE (qP bag (es.getD i [])) (qP bag (es.getD j []))&&(decide ((qP bag (es.getD i [])).length<(qP bag (es.getD j [])).length)||decide (j<i))
def vQ(bag:LI)(es:LL)(i:Nat):Bool:=
 decide (0<(qP bag (es.getD i [])).length)&&(List.range es.length).all λj=>!kx bag es i j
def zl(bag:LI)(es:LL):List Nat:=(List.range es.length).filter (vQ bag es)
def zo(bag:LI)(es:LL):LL:=(zl bag es).map λi=>qP bag (es.getD i [])
theorem yS:yE a b=true↔∀x∈a,x∈b:=by simp[yE]
theorem uH{e:LI}{x:Int}:x∈qP bag e↔x∈e/\x∈bag:=by simp[qP]
theorem qB5{P:Nat->Prop}{f:Nat->Nat}{N:Nat}(M:∀i,P i->f i<=N)(hi:P i):∃j,P j/\∀k,P k->f k<=f j:=by
 refine Classical.byContradiction λI=>?_;have step:∀n,∃j,P j/\n<=f j:=by
  intro n;induction n with
  |zero=>exact⟨i,hi,nZ _⟩
  |succ n ih=>
   obtain⟨j,K,O⟩:=ih;refine Classical.byContradiction λU=>I ⟨j,K,λk V=>?_⟩;refine Classical.byContradiction λh3=>U ⟨k,V,Oo⟩
 obtain⟨j,K,O⟩:=step (N+1);have:=M j K;omega
theorem qB6{P:Nat->Prop}(hi:P i):∃j,P j/\∀k,P k->j<=k:=by
 refine Classical.byContradiction λI=>?_;have step:∀n k,k<n->¬P k:=by
  intro n;induction n with
  |zero=>intro k M;omega
  |succ n ih=>
   intro k M K;by_cases e:k<n;exact ih k e K;refine I ⟨k,K,λm O=>?_⟩;refine Classical.byContradiction λU=>ih m Oo O
 exact step (i+1) i Oo hi
theorem UX(I:a.Nodup)(h:∀x∈a,x∈b):a.length<=b.length:=by
 induction a generalizing b with
 |nil=>simp
 |cons x a ih=>
  have K:x∈b:=h x (List.mem_cons_self);rw[List.nodup_cons]at I;have O:=ih (b:=b.erase x) I.2 (λy M=>by
   have:y≠x:=λe=>I.1 (e ▸ M);exact(List.mem_erase_of_ne this).2 (h y (mC _ M)))
  rw[List.length_erase_of_mem K]at O;have:0<b.length:=List.length_pos_of_mem K;simp only[List.length_cons];omega
theorem Vo(hn:∀i,i<es.length->(es.getD i []).Nodup)(hi:i<es.length)(h0:0<(qP bag (es.getD i [])).length):
 ∃j,j<es.length/\vQ bag es j=true/\yE (qP bag (es.getD i [])) (qP bag (es.getD j []))=true:=by
 have a4:∀j,j<es.length->(qP bag (es.getD j [])).Nodup:=λj K=>List.Pairwise.filter _ (hn j K);obtain⟨t,⟨ht,a5⟩,I⟩:=qB5 (P:=λj=>j<es.length/\yE (qP bag (es.getD i [])) (qP bag (es.getD j []))=true) (f:=λj=>(qP bag (es.getD j [])).length) (N:=(es.map List.length).sum)
  (λj K=>by
   have h1:(qP bag (es.getD j [])).length<=(es.getD j []).length:=List.length_filter_le _ _;have h2:(es.getD j []).length<=(es.map List.length).sum:=by
    have:es.getD j []∈es:=by
     rw[gD,gE K.1];exact gM K.1
    have hm:(es.getD j []).length∈es.map List.length:=List.mem_map_of_mem this;clear h1;generalize es.map List.length=L at hm;generalize (es.getD j []).length=y at hm;induction L with
    |nil=>cases hm
    |cons z L ih=>
     rcases List.mem_cons.1 hm with rfl|h;simp;have:=ih h;simp;omega
   omega) (i:=i) ⟨hi,yS.2 (λx M=>M)⟩
 obtain⟨j,⟨K,O,a6⟩,U⟩:=qB6 (P:=λj=>j<es.length/\yE (qP bag (es.getD i [])) (qP bag (es.getD j []))=true/\(qP bag (es.getD t [])).length<=(qP bag (es.getD j [])).length) (i:=t) ⟨ht,a5,nR _⟩;refine⟨j,K,?_,O⟩;unfold vQ;rw[bV,dE,aT];have h1:=I i ⟨hi,yS.2 (λx M=>M)⟩;refine⟨Oo,λk hk=>?_⟩;have V:k<es.length:=by simpa using hk
 rw[Bool.not_eq_true'];refine Bool.eq_false_iff.2 λho=>?_;unfold kx at ho;rw[bV,bV,Bool.or_eq_true,dE,dE,dE]at ho;obtain⟨⟨a7,hs⟩,hl⟩:=ho;have a3:yE (qP bag (es.getD i [])) (qP bag (es.getD k []))=true:=yS.2 (λx M=>yS.1 hs x (yS.1 O x M));have h2:=I k ⟨V,a3⟩;have h3:=UX (a4 j K) (yS.1 hs);have h4:=U k;rcases hl with hl|hl;omega;have:=h4 ⟨V,a3,Oo⟩;omega
theorem ky(h:p<(zl bag es).length):(zo bag es).getD p []=qP bag (es.getD ((zl bag es).getD p 0) []):=by
 unfold zo;rw[gD,bK,gD (l:=zl bag es),gE h];rfl
theorem XR(h:p<(zl bag es).length):(zl bag es).getD p 0<es.length/\vQ bag es ((zl bag es).getD p 0)=true:=by
 have:(zl bag es).getD p 0∈zl bag es:=by
  rw[gD,gE h];exact gM h
 have I:=List.mem_filter.1 this;exact⟨by simpa using I.1,I.2⟩
theorem Vp{j:Nat}(K:j<es.length)(M:vQ bag es j=true):∃p,p<(zl bag es).length/\(zl bag es).getD p 0=j:=by
 have:j∈zl bag es:=List.mem_filter.2 ⟨by simpa using K,M⟩;obtain⟨p,I,e⟩:=gO this;exact⟨p,I,by rw[gD,gE I];exact e⟩
theorem ym(bag:LI)(es:LL):(zo bag es).length=(zl bag es).length:=by simp[zo]
theorem qEN(bag:LI)(es:LL):(zl bag es).length<=es.length:=by
 unfold zl;exact bM (List.length_filter_le _ _) Ss
theorem yY{e:Nat}(K:r<bag.length)(M:e<es.length):inc (qQ bag es) r e=if bag.getD r 0∈es.getD e [] then 1 else 0:=by
 unfold inc qQ;have O:(bag.map λx=>plN (λi=>decide (x∈es.getD i [])) es.length).getD r []=plN (λi=>decide (bag.getD r 0∈es.getD i [])) es.length:=by
  rw[gD,bK,gD (l:=bag),gE K];rfl
 rw[O];unfold plN;by_cases I:bag.getD r 0∈es.getD e [];rw[if_pos I,if_pos (List.mem_filter.2 ⟨by simpa using M,by simpa using I⟩)];rw[if_neg I,if_neg (λh=>I (by simpa using (List.mem_filter.1 h).2))]
theorem yf(I:r<bag.length):bag.getD r 0∈bag:=by
 rw[gD,gE I];exact gM I
theorem qAa(hn:∀i,i<es.length->(es.getD i []).Nodup)(hx:zS bag.length es.length (inc (qQ bag es)) x)
 (hy:zS bag.length (zo bag es).length (inc (qQ bag (zo bag es))) y):Cov.sm es.length x=Cov.sm (zo bag es).length y:=by
 have M:∀e,∃p,e<es.length->0<(qP bag (es.getD e [])).length->p<(zl bag es).length/\yE (qP bag (es.getD e [])) (qP bag (es.getD ((zl bag es).getD p 0) []))=true:=by
  intro e;by_cases h:e<es.length/\0<(qP bag (es.getD e [])).length;obtain⟨j,O,V,h3⟩:=Vo hn h.1 h.2;obtain⟨p,h4,h5⟩:=Vp O V;exact⟨p,λ_ _=>⟨h4,by rw[h5];exact h3⟩⟩;exact⟨0,λO V=>absurd ⟨O,V⟩ h⟩
 obtain⟨up,M⟩:∃up:Nat->Nat,∀e,e<es.length->0<(qP bag (es.getD e [])).length->up e<(zl bag es).length/\yE (qP bag (es.getD e [])) (qP bag (es.getD ((zl bag es).getD (up e) 0) []))=true:=
  ⟨λe=>Classical.choose (M e),λe=>Classical.choose_spec (M e)⟩
 have hl:=ym bag es;refine Cov.kept_sum (m:=bag.length) (rep:=λp=>(zl bag es).getD p 0) (up:=up) (nz:=λe=>decide (0<(qP bag (es.getD e [])).length)) ?_ ?_ ?_ ?_ hx.1 hx.2 hy.1 hy.2
 ·intro r I p U;rw[hl]at U;have hk:=XR U;rw[yY I (by rw[hl];exact U),yY I hk.1,ky U];have:=yf I;by_cases K:bag.getD r 0∈es.getD ((zl bag es).getD p 0) [];rw[if_pos K,if_pos (uH.2 ⟨K,this⟩)];rw[if_neg K,if_neg (λh=>K (uH.1 h).1)]
 intro p U;rw[hl]at U;exact(XR U).1;intro e he hz r I;rw[yY I he,if_neg];intro K;have O:bag.getD r 0∈qP bag (es.getD e []):=uH.2 ⟨K,yf I⟩;have V:=List.length_pos_of_mem O;have a3:=of_decide_eq_false hz;omega;intro e he hz;have h0:0<(qP bag (es.getD e [])).length:=by simpa using hz
 obtain⟨O,V⟩:=M e he h0;refine⟨by rw[hl];exact O,λr I=>?_⟩;rw[yY I he,yY I (XR O).1];by_cases K:bag.getD r 0∈es.getD e [];have:=(uH.1 (yS.1 V _ (uH.2 ⟨K,yf I⟩))).1;rw[if_pos K,if_pos this];exact Rat.le_refl;rw[if_neg K];split;decide;exact Rat.le_refl
theorem jR(hb:bag.length<=7)(O:∀r,r<bag.length->∃e,e<es.length/\bag.getD r 0∈es.getD e []):∃x,zS bag.length es.length (inc (qQ bag es)) x/\Parts es.length x:=by
 obtain⟨bar,s,U,V,h3⟩:=Cov.least_cover (m:=bag.length) (u:=es.length) (M:=inc (qQ bag es)) (λr _ e _=>QJ _ r e) (λr I=>by
  obtain⟨e,K,hm⟩:=O r I;exact⟨e,K,by rw[yY I K,if_pos hm]⟩)
 exact⟨_,⟨V,h3⟩,Xb U hb (λj _ r _=>jt _ _ _ _ _) _⟩
theorem qAb(O:∀i,i<es.length->(es.getD i []).Nodup)(U:∀r,r<bag.length->∃e,e<es.length/\bag.getD r 0∈es.getD e []):
 ∀r,r<bag.length->∃e,e<(zo bag es).length/\bag.getD r 0∈(zo bag es).getD e []:=by
 intro r I;obtain⟨e,V,hm⟩:=U r I;have K:bag.getD r 0∈qP bag (es.getD e []):=uH.2 ⟨hm,yf I⟩;obtain⟨j,h2,h3,h4⟩:=Vo O V (List.length_pos_of_mem K);obtain⟨p,M,h6⟩:=Vp h2 h3;exact⟨p,by rw[ym];exact M,by rw[ky M,h6];exact yS.1 h4 _ K⟩
def gW:Nat->List (Nat->Rat)
 |0=>[λ_=>0]
 |u+1=>(gW u).flatMap λf=>(List.range 5041).flatMap λd=>(List.range 10081).map λ(z:Nat)=>λj=>if j=u then mkRat (z-5040) d else f j
theorem gWm{x:Nat->Rat}:∀{u},(∀j,j<u->Sm 5040 (x j))->∃y∈gW u,∀j,j<u->y j=x j
 |0,_=>⟨_,.head _,λj h=>by omega⟩
 |u+1,h=>by
  have⟨y,hy,e⟩:=gWm (u:=u) λj k=>h j (by omega)
  have⟨h1,h2⟩:=h u (by omega)
  refine⟨_,List.mem_flatMap.2 ⟨y,hy,List.mem_flatMap.2 ⟨(x u).den,List.mem_range.2 (by omega),List.mem_map.2 ⟨((x u).num+5040).toNat,List.mem_range.2 (by omega),rfl⟩⟩⟩,λj k=>?_⟩
  show(if j=u then mkRat _ _ else y j)=_
  split
  ·subst j;rw[show ((((x u).num+5040).toNat:Nat):Int)-5040=(x u).num by omega,Rat.mkRat_self]
  ·exact e j (by omega)
def wdR(es:LL)(bag:LI):Rat:=(((gW es.length).filter λy=>decide ((∀i,i<es.length->0<=y i)/\∀r,r<bag.length->1<=Cov.sm es.length λi=>inc (qQ bag es) r i*y i)).map (Cov.sm es.length)).min?.getD 0
theorem Ju(h:zS bag.length es.length (inc (qQ bag es)) x)(p:Parts es.length x):Cov.sm es.length x=wdR es bag:=by
 have⟨y,hy,e⟩:=gWm λj k=>p.sm k
 refine(congrArg (Option.getD · 0) (List.min?_eq_some_iff.2 ⟨List.mem_map.2 ⟨y,List.mem_filter.2 ⟨hy,decide_eq_true ⟨λi k=>e i k▸h.1.1 i k,λr k=>?_⟩⟩,Cov.sm_congr e⟩,λb k=>?_⟩)).symm
 ·obtain⟨z,hz,rfl⟩:=List.mem_map.1 k;have k:=of_decide_eq_true (List.mem_filter.1 hz).2;have:=h.2 z ⟨k.1,k.2⟩;unfold Cov.key Cov.Lex at this;grind
 ·rw[Cov.sm_congr λi k=>congrArg (inc _ r i*·) (e i k)];exact h.1.2 r k
def qt(f:Nat->Rat):Nat->Rat
 |0=>0
 |n+1=>if qt f n<f n then f n else qt f n
theorem XO{f:Nat->Rat}{B:Nat}(hB:1<=B):∀{n:Nat},(∀i,i<n->Sm B (f i))->Sm B (qt f n)
 |0,_=>⟨by show(0:Rat).num.natAbs<=B;simp,by show(0:Rat).den<=B;simpa using hB⟩
 |n+1,h=>by
  show Sm B (if qt f n<f n then f n else qt f n);split;exact h n Oo;exact XO hB (λi hi=>h i Oo)
theorem qFa(p q:Rat)(w:World)(I:Sm 1000000 p)(hq:Sm 1000000 q)(h:q<p):
 Cl 125 #[.agg #[ai p.num,ai p.den],.agg #[ai q.num,ai q.den]] w λe w'=>e=.returned (ai 1)/\Bl w w':=
 (J8 _ _ _ _ w (jZ I) (jZ hq)).mono (by
  rintro e w' ⟨rfl,hb⟩;have K:=(Rat.lt_iff _ _).1 h;rw[RatM.sgn_gt _ Oo];exact⟨rfl,hb⟩)
theorem qFb(p q:Rat)(w:World)(I:Sm 1000000 p)(hq:Sm 1000000 q)(h:¬q<p):
 Cl 125 #[.agg #[ai p.num,ai p.den],.agg #[ai q.num,ai q.den]] w λe w'=>∃s:Int,e=.returned (ai s)/\¬(0<s)/\Bl w w':=
 (J8 _ _ _ _ w (jZ I) (jZ hq)).mono (by
  rintro e w' ⟨rfl,hb⟩;have M:¬_:=λK=>h ((Rat.lt_iff _ _).2 K);refine⟨_,rfl,?_,hb⟩;unfold RatM.sgn;split <;> (try split) <;> omega)
theorem XP(w:World)(v:Value)(n:Nat)(f:Nat->Rat)(h:IR w v (prs n f))(hn:n<=1000)(hf:∀i,i<n->Sm 1000000 (f i)):
 Cl 101 #[v] w λe w'=>e=.returned (.agg #[ai (qt f n).num,ai (qt f n).den])/\Bl w w':=by
 obtain⟨a,cap,rfl,hc⟩:=h;rw[qc]at hc ⊢;have HC:Hh (n=0∨∃b o,a=some (az b o)/\∀j,j<n->w.cell? (az b (o+j*2))=some (ai (f j).num)/\w.cell? (az b (o+j*2+1))=some (ai (f j).den)):=by
  rcases hc with h0|⟨b,o,e,K⟩;exact Or.inl h0;refine Or.inr ⟨b,o,e,λj hj=>?_⟩;have:=K j hj;rw[ya hj]at this;exact this
 have HF:=ay hf;have HM:Hh (∀k,k<=n->Sm 1000000 (qt f k)):=ay λk hk=>XO Oo (λi hi=>hf i Oo);have b7:Hh (∀k,qt f k<f k->qt f (k+1)=f k):=ay λk hk=>by show(if _ then _ else _)=_;rw[if_pos hk]
 have b8:Hh (∀k,¬qt f k<f k->qt f (k+1)=qt f k):=ay λk hk=>by show(if _ then _ else _)=_;rw[if_neg hk]
 have H0:Hh (qt f 0=0):=ay rfl;clear hc hf;generalize qt f=MN at *;go_enter Tryz.func101,Tryz.ntmps101;go_wp2;have a6:Bl w ((w.alloc (.cells #[ai 0,ai 0] 36)).alloc (.cells #[ai 0,ai 1] 36)):=(aK).alloc Ss _;have t1:Two ((w.alloc (.cells #[ai 0,ai 0] 36)).alloc (.cells #[ai 0,ai 1] 36)) w.1.size 0 0:=
  ⟨by rw[World.cell?_alloc_past _ _ _ Ss,bE _ _ _ _ rfl];rfl,by rw[World.cell?_alloc_past _ _ _ Ss,bE _ _ _ _ rfl];rfl,by rw[World.frozen?_alloc_past _ _ _ Ss,World.frozen?_alloc_at _ _ _ _ rfl],by rw[World.frozen?_alloc_past _ _ _ Ss,World.frozen?_alloc_at _ _ _ _ rfl]⟩
 have t2:Two ((w.alloc (.cells #[ai 0,ai 0] 36)).alloc (.cells #[ai 0,ai 1] 36)) (w.1.size+1) 0 1:=
  ⟨by rw[bE _ _ _ _ Ss];rfl,by rw[bE _ _ _ _ Ss];rfl,World.frozen?_alloc_at _ _ _ _ Ss,World.frozen?_alloc_at _ _ _ _ Ss⟩
 have T1:=ay t1;have T2:=ay t2;have a7:=ay a6;clear t1 t2 a6;go_loopw [9] (λt wr=>∃k:Nat,k<=n/\t=ai k/\w.1.size+1<wr.1.size/\Hh (Bl w wr/\Two wr w.1.size 0 0/\Two wr (w.1.size+1) (MN k).num (MN k).den)) (λt _=>n-(intOf t).toNat);exact⟨0,nZ _,rfl,Ss,ay ⟨a7.o,T1.o,by rw[H0.o];exact T2.o⟩⟩;clear T1 T2 a7;obtain⟨k,hk,rfl,b9,hH⟩:=hrel;by_cases a8:k<n
 ·have i1:(k:Int)<(n:Int):=Oo;rcases HC.o with h0|⟨b,o,rfl,K⟩;omega;obtain⟨U,M,O⟩:=hH.o;obtain⟨d1,d2⟩:=K k a8;have c1:=(U.cell (p:=(az b (o+k*2))) (bL w _ d1)).trans d1;have c2:=(U.cell (p:=(az b (o+k*2+1))) (bL w _ d2)).trans d2;have c3:=O.1;have c4:=O.2.1;have HH:=ay (And.intro U (And.intro M O));have a9:Hh (∀ob,Bl wr (wr.alloc ob)):=ay λob=>(bJ _ _).alloc (nR _) ob;have b0:=ay (HF.o k a8);have b1:=ay (HM.o k hk);have a4:=b7.o k;have a5:=b8.o k;clear K d1 d2 U M O hH;have z1:∀x y:Value,(wr.alloc (.cells #[x,y] 36)).cell? (az wr.1.size 0)=some x:=λx y=>by rw[bE _ _ _ _ rfl];rfl
  have z2:∀x y:Value,(wr.alloc (.cells #[x,y] 36)).cell? (az wr.1.size 1)=some y:=λx y=>by rw[bE _ _ _ _ rfl];rfl
  have Z1:=ay z1;have Z2:=ay z2;clear z1 z2;by_cases a3:MN k<f k
  ·have HE:=ay (a4 a3);have HK:Hh (∀w,_):=ay (λw=>qFa (f k) (MN k) w b0.o b1.o a3);clear a4 a5 a3;generalize hx:(f k).num=x at *;generalize hy:((f k).den:Int)=y at *;have HX:=ay hx;have HY:=ay hy;clear hx hy;generalize (MN k).num=x0 at *;generalize ((MN k).den:Int)=y0 at *;go_wp2_with fail;refine(HK.o _).mono ?_;rintro e w2 ⟨rfl,V⟩;have I:=bt (a9.o _) V;have q1:=HH.o.2.1.below Oo I;have q2:=HH.o.2.2.below Oo I;have q3:=bt HH.o.1 I;have q4:=I.size;have f1:=qJ V (Z1.o _ _);have f2:=qJ V (Z2.o _ _);have e1:=q2.1;have e2:=q2.2.1;have e3:=q2.2.2.1;have e4:=q2.2.2.2;have HQ:=ay (And.intro q1 (And.intro q2 q3));clear V I q1 q2 q3 Z1 Z2;go_wp2_with fail;go_roundw;exact⟨k+1,Oo,Gg,by simp[World.setCell];omega,ay ⟨(HQ.o.2.2.setCell (by show w.1.size<=w.1.size+1;omega) _).setCell (by show w.1.size<=w.1.size+1;omega) _,HQ.o.1.other Oo _ _,by rw[HE.o,HX.o,HY.o];exact HQ.o.2.1.set _ _⟩⟩;exact Im
  have HE:=ay (a5 a3);have HK:Hh (∀w,_):=ay (λw=>qFb (f k) (MN k) w b0.o b1.o a3);clear a4 a5 a3;generalize (f k).num=x at *;generalize ((f k).den:Int)=y at *;generalize hx:(MN k).num=x0 at *;generalize hy:((MN k).den:Int)=y0 at *;have HX:=ay hx;have HY:=ay hy;clear hx hy;go_wp2_with fail;refine(HK.o _).mono ?_;rintro e w2 ⟨s,rfl,hs,V⟩;have I:=bt (a9.o _) V;have q1:=HH.o.2.1.below Oo I;have q2:=HH.o.2.2.below Oo I;have q3:=bt HH.o.1 I;have q4:=I.size;have HQ:=ay (And.intro q1 (And.intro q2 q3));clear V I q1 q2 q3 Z1 Z2;go_wp2_with fail;go_roundw;exact⟨k+1,Oo,Gg,Oo,ay ⟨HQ.o.2.2,HQ.o.1,by rw[HE.o,HX.o,HY.o];exact HQ.o.2.1⟩⟩;exact Im
 obtain rfl:k=n:=Oo;have i1:¬((k:Int)<(k:Int)):=Oo;obtain⟨U,M,O⟩:=hH.o;have c1:=M.1;have c2:=M.2.1;have c3:=M.2.2.1;have c4:=M.2.2.2;have e1:=O.1;have e2:=O.2.1;obtain⟨x,hx⟩:=Ex ((MN k).num);obtain⟨y,hy⟩:=Ex ((MN k).den:Int);rw[<-hx]at e1;rw[<-hy]at e2;have HX:=ay hx;have HY:=ay hy;have HQ:=ay (And.intro U (M.set x y));clear hH M O hx hy U;go_wp2;have r1:=HQ.o.2.1;have r2:=HQ.o.2.2.1;refine bodyPost_ret (v:=.agg #[ai x,ai y]) (by simp[results,Tryz.results101,go_sem,r1,r2]) rfl ⟨by rw[HX.o,HY.o],(HQ.o.1.setCell (nR _) _).setCell (nR _) _⟩
end Go.Proofs.YtcnfapnfmnolbaaGreat
