import Derived.Test.YtcnfapnfmnolbaaGreatRq13
set_option maxHeartbeats 40000000
set_option maxRecDepth 1000000
namespace Go.Proofs.YtcnfapnfmnolbaaGreat
open Go.RowKit
variable {x:Int}{L l o ws:LI}{R:LL}{us:List Value}{B b c g g3 i k lk m p:Nat}{PB:Obj}{v v2:Value}{W W' X Y w w3:World}
def qO(o vars:LI)(i:Nat):Bool:=decide (o.getD i 0∈vars)
theorem qD9(H:Nat->Bool)(p:LI)(hi:i<p.length):prt H (p.take (i+1))=prt H (p.take i)++(if H i then [p.getD i 0] else []):=by
 have e:p.take (i+1)=p.take i++[p.getD i 0]:=qy hi;rw[e,jO,bW,Nat.min_eq_left Oo]
theorem Qr(w:World)(a0 a1:Option Addr)(n1 c0 c1:Nat)(vo vp:Value)(vars o p:LI)(hv:IS w (.slice a0 vars.length c0) vars)(ho:IS w vo o)(hp:IS w vp p)(hl:p.length<=o.length)(hb:o.length<=1000)(e2:vars.length<=1000):
 Cl 92 #[.agg #[.slice a0 vars.length c0,.slice a1 n1 c1],vo,vp] w λe w'=>∃g c,e=.returned (.slice (some (az g 0)) (prt (qO o vars) p).length c)/\w'.ownsRow w.1.size 3 1 (.slice (some (az g 0)) (prt (qO o vars) p).length c) (prt (qO o vars) p).length ((prt (qO o vars) p).map ai)/\Bl w w':=by
 obtain⟨i0,hi,d4,d5,d6⟩:=info_parts Tryz.infoInt;obtain⟨ap,e3,rfl,b8⟩:=hp;obtain⟨ao,co,rfl,b9⟩:=ho;obtain⟨n,hn⟩:=Ex p.length;obtain⟨no,a7⟩:=Ex o.length;have HN:=ay hn;obtain⟨I,a3⟩:=Ex (w.alloc (.cells #[.slice a0 vars.length c0,.slice a1 n1 c1] 123));have a4:Bl w I:=by rw[a3];exact(bJ _ _).alloc (nR _) _
 have c7:I.1.size=w.1.size+1:=by rw[a3];simp
 have c8:I.cell? (az w.1.size 0)=some (.slice a0 vars.length c0):=by rw[a3,bE _ _ _ _ rfl];rfl
 have HV:=ay (hv.below a4);have d7:=ay a4;have d8:Hh (n=0∨∃b q,ap=some (az b q)/\∀j,j<n->I.cell? (az b (q+j))=some (ai (p.getD j 0))):=ay (by
  rw[hn];rcases b8 with h0|⟨b,q,rfl,h⟩;exact Or.inl h0;exact Or.inr ⟨b,q,rfl,λj hj=>(a4.cell (bL w _ (h j hj))).trans (h j hj)⟩)
 have d9:Hh (no=0∨∃b q,ao=some (az b q)/\∀j,j<no->I.cell? (az b (q+j))=some (ai (o.getD j 0))):=ay (by
  rw[a7];rcases b9 with h0|⟨b,q,rfl,h⟩;exact Or.inl h0;exact Or.inr ⟨b,q,rfl,λj hj=>(a4.cell (bL w _ (h j hj))).trans (h j hj)⟩)
 obtain⟨K,a6⟩:=Ex (λk=>prt (qO o vars) (p.take k):Nat->LI);have H0:Hh (K 0=[]):=ay (by rw[a6];rfl);have HS:Hh (∀k,k<n->K (k+1)=K k++(if qO o vars k then [p.getD k 0] else [])):=ay (λk hk=>by rw[a6];exact qD9 _ p Oo);have HE:Hh (K n=prt (qO o vars) p):=ay (by rw[a6,hn];show prt _ (p.take p.length)=_;rw[tL]);rw[<-HE.o];rw[<-hn,<-a7];have e4:n<=no:=Oo;have e0:no<=1000:=Oo;have c9:=ay c7;clear a6 hv b8 b9 a4 hl hb hn a7 c7;go_enter Tryz.func92,Tryz.ntmps92;go_upto_region 1 with fail;rw[<-a3];clear a3;have b0:Bl I (I.alloc (.cells #[] 3)):=(bJ _ _).alloc (nR _) _;have d0:=ay b0;clear b0;go_upto_block 0 with fail;go_wp2_with fail;go_loopw [7,13] (λv t wr=>∃k g cp lk:Nat,k<=n/\t=ai k/\v=.slice (some (az g 0)) lk cp/\lk<=k/\Hh (lk=(K k).length/\wr.ownsRow I.1.size 3 1 (.slice (some (az g 0)) lk cp) lk ((K k).map ai)/\Bl I wr)) (λ_ t _=>n-(intOf t).toNat);exact⟨0,I.1.size,0,0,nZ _,rfl,rfl,nR _,ay (by rw[H0.o];exact⟨rfl,oM I #[] 0 (nR _) Dd rfl,d0.o⟩)⟩;clear d0;obtain⟨k,g,cp,lk,hk,rfl,rfl,e5,U⟩:=hrel;have e6:=U.o.2.2.size;by_cases a8:k<n
 ·have i1:(k:Int)<(n:Int):=Oo;have i2:(k:Int)<(no:Int):=Oo;rcases d8.o with h0|⟨b,q,rfl,M⟩;omega;rcases d9.o with h0|⟨bo,qo,rfl,O⟩;omega;have c1:wr.cell? (az b (q+k))=some (ai (p.getD k 0)):=(U.o.2.2.cell (bL I _ (M k a8))).trans (M k a8);have c2:wr.cell? (az bo (qo+k))=some (ai (o.getD k 0)):=(U.o.2.2.cell (bL I _ (O k Oo))).trans (O k Oo);have c3:wr.cell? (az w.1.size 0)=some (.slice a0 vars.length c0):=(U.o.2.2.cell (bL I _ c8)).trans c8;have HK:=ay (λW (hW:Bl I W)=>zm W _ vars (o.getD k 0) (HV.o.below hW) Oo);have e1:=HS.o k a8;have ey:decide (o.getD k 0∈vars)=qO o vars k:=rfl;rw[ey]at HK;clear M O ey;generalize qO o vars k=y at *;generalize p.getD k 0=x at *;generalize o.getD k 0=ov at *;have a9:Hh (∀q,Bl I (wr.drewN q)):=ay λq=>below_drewN U.o.2.2 q;cases y
  ·rw[if_neg Dd,List.append_nil]at e1;have HF:Hh (∀d,lk=(K (k+1)).length/\(wr.drewN d).ownsRow I.1.size 3 1 (.slice (some (az g 0)) lk cp) lk ((K (k+1)).map ai)/\Bl I (wr.drewN d)):=ay (λd=>by rw[e1];exact⟨U.o.1,U.o.2.1,below_drewN U.o.2.2 d⟩);clear e1 U;go_upto_region 5 with fail;go_quiet (first|(go_at_call 62;exact Calls.quiet_of_same (HK.o _ (a9.o _))))
   go_wp2_with fail;go_roundw;exact⟨k+1,g,cp,lk,Oo,Gg,rfl,Oo,ay (HF.o nq)⟩;exact Im
  rw[if_pos rfl]at e1;have E1:=ay e1;clear e1;go_upto_region 5 with fail;go_quiet (first|(go_at_call 62;exact Calls.quiet_of_same (HK.o _ (a9.o _))))
  have b1:Hh ((wr.drewN nq).ownsRow I.1.size 3 1 (.slice (some (az g 0)) lk cp) lk ((K k).map ai)):=ay U.o.2.1;have b7:=ay (a9.o nq);have d1:I.1.size<=(wr.drewN nq).1.size:=b7.o.size;generalize wr.drewN nq=wd at b1 b7 d1 ⊢;go_wp2_with (first
   |(at_builtin;refine wpList_append_lies _ rfl _ _ 24 rfl I.1.size 3 i0 (ai 0) 1 8 Tryz.underlying24 hi d4 d5 d6 rfl Dd (.slice (some (az g 0)) lk cp) _ _ rfl (b1.o.alloc _) (az _ 0) 1 1 [ai x] rfl rfl (qH _ _ _) (λu hu=>by simp at hu;subst hu;rfl) Dd Um Oo Sy _ rfl ?_;intro g3 cp3 w3 a5 V d2 d3)|fail)
  have HF:Hh (lk+1=(K (k+1)).length/\w3.ownsRow I.1.size 3 1 (.slice (some (az g3 0)) (lk+1) cp3) (lk+1) ((K (k+1)).map ai)/\Bl I w3):=ay (by
   rw[E1.o,lA,lS,mA];exact⟨by rw[U.o.1],a5,(b7.o.alloc d1 _).grown V Sy (λq hq=>(b1.o.lt q hq).1)⟩)
  clear a5 V d2 d3 U;go_roundw;exact⟨k+1,g3,cp3,lk+1,Oo,Gg,rfl,Oo,HF⟩;exact Im
 obtain rfl:k=n:=Oo;have i1:¬((k:Int)<(k:Int)):=Oo;obtain⟨h1,h3,h4⟩:=U.o;have HF:Hh (wr.ownsRow w.1.size 3 1 (.slice (some (az g 0)) (K k).length cp) (K k).length ((K k).map ai)/\Bl w wr):=ay (by rw[<-h1];exact⟨qF h3 (by have:=c9.o;omega),d7.o.trans (h4.mono (by have:=c9.o;omega))⟩);have H1:=ay h1;clear h1 h3 h4 U;go_wp2_with fail;go_ret;exact⟨g,cp,by rw[H1.o];rfl,HF.o.1,HF.o.2⟩
def kA(R:LL)(q:LI):Nat:=R.findIdx λr=>!decide (qE (r.take q.length) q<0)
def nA(R:LL)(q:LI):Nat:=(R.drop (kA R q)).findIdx λr=>!decide (r.take q.length=q)
def nN(m:Nat)(R:LL)(q:LI):LI:=if q.length<m then VA R q (kA R q) (nA R q) else []
section
variable {R:LL} {q:LI}
theorem qEq(O:SL R):Sk R q (kA R q):=by
 have hle:kA R q<=R.length:=List.findIdx_le_length;have I:∀j,j<kA R q->qE ((R.getD j []).take q.length) q<0:=λj U=>by
  have:=List.not_of_lt_findIdx U;rw[Bool.not_eq_false',dE]at this;rw[gD,gE Oo];exact this
 refine⟨hle,I,λj V h2 hc=>?_⟩;have K:kA R q<R.length:=Oo;have M:=List.findIdx_getElem (w:=K);rw[Bool.not_eq_true',decide_eq_false_iff_not]at M;refine M ?_;have:=qBO O V h2 hc;rw[gD,gE K]at this;exact this
theorem X8:Run R q (kA R q) (nA R q):=by
 have hle:nA R q<=(R.drop (kA R q)).length:=List.findIdx_le_length;rw[List.length_drop]at hle;have K:kA R q<=R.length:=List.findIdx_le_length;refine⟨Oo,λj I=>?_⟩;have:=List.not_of_lt_findIdx I;rw[Bool.not_eq_false',dE,List.getElem_drop]at this;rw[gD,gE Oo];exact this
theorem qCx(h:kA R q+nA R q<R.length):(R.getD (kA R q+nA R q) []).take q.length≠q:=by
 have I:nA R q<(R.drop (kA R q)).length:=by rw[List.length_drop];omega
 have K:(!decide (((R.drop (kA R q))[nA R q]'I).take q.length=q))=true:=List.findIdx_getElem (w:=I);rw[Bool.not_eq_true',decide_eq_false_iff_not,List.getElem_drop]at K;rw[gD,gE h];exact K
theorem qD6(V:SL R){n:Nat}(K:Sk R q k)(h:Run R q k n)(hE:k+n<R.length->(R.getD (k+n) []).take q.length≠q):k=kA R q/\n=nA R q:=by
 have M:=qEq (q:=q) V;have O:k=kA R q:=by
  rcases Nat.lt_trichotomy k (kA R q)with I|I|I;exact absurd (M.lo k I) (K.hi k (nR _) (by have:=M.le;omega));exact I;exact absurd (K.lo _ I) (M.hi _ (nR _) (by have:=K.le;omega))
 subst O;refine⟨rfl,?_⟩;have U:=X8 (R:=R) (q:=q);rcases Nat.lt_trichotomy n (nA R q)with I|I|I;exact absurd (U.beg n I) (hE (by have:=U.le;omega));exact I;exact absurd (h.beg _ I) (qCx (by have:=h.le;omega))
end
theorem qBu(M:SL R)(hl:∀r∈R,r.length=m):TM R (λp=>p=[]∨∃r∈R,p <+:r) (nN m R):=by
 refine⟨λp=>Iff.rfl,λp _ x=>?_,λp _=>?_⟩
 ·unfold nN;by_cases h:p.length<m
  ·rw[if_pos h,qGX M (λr K=>by rw[hl r K];exact h) (qEq M) X8 qCx];constructor;exact Or.inr;rintro (I|I);simp at I;exact I
  rw[if_neg h];constructor;intro I;cases I
  rintro (I|⟨r,K,I⟩);simp at I;have:=I.length_le;rw[lA,lS,hl r K]at this;omega
 unfold nN;by_cases h:p.length<m;rw[if_pos h];exact qCw M (λr K=>by rw[hl r K];exact h) _ X8;rw[if_neg h];exact List.Pairwise.nil
structure SdM where
 vars:LI
 rows:LL
def qb:SdM:=⟨[],[]⟩
def sdO(o:LI)(s:SdM):Sd:=⟨qO o s.vars,s.rows,nN s.vars.length s.rows⟩
structure SdM.Ok(s:SdM):Prop where
 sl:SL s.rows
 len:∀r∈s.rows,r.length=s.vars.length
theorem qCy{s:SdM}(h:s.Ok):(sdO o s).Ok:=⟨qBu h.sl h.len⟩
theorem Jh{q:LI}:y7 R q=true↔∃r∈R,q <+:r:=by
 unfold y7;rw[List.any_eq_true];constructor;rintro⟨r,I,h⟩;refine⟨r,I,?_⟩;rw[<-of_decide_eq_true h];exact List.take_prefix _ _;rintro⟨r,I,t,K⟩;exact⟨r,I,decide_eq_true (by rw[<-K,List.take_left])⟩
theorem VK{K:Addr}{n:Nat}(h:IS w (.slice (some K) n c) l)(M:m<=l.length):IS w (.slice (some K) m c) (l.take m):=by
 obtain⟨a,c',e,I⟩:=h;simp only[Value.slice.injEq]at e;obtain⟨rfl,-,rfl⟩:=e;have hl:(l.take m).length=m:=by rw[bW];omega
 refine⟨_,c,by rw[hl],?_⟩;rcases I with I|⟨b,o,e,I⟩;exact Or.inl Oo;exact Or.inr ⟨b,o,e,λj O=>by rw[getD_take Oo];exact I j Oo⟩
theorem jT(w:World)(vr vq:Value)(rows:LL)(q:LI)(h:ISSc w vr rows)(hq:IS w vq q)(hS:SL rows)(hn:rows.length<=1099511627776)(hl:∀r∈rows,q.length<=r.length/\r.length<=1099511627776):
 Cl 47 #[vr,vq] w λe w'=>∃k:Nat,e=.returned (ai k)/\Sk rows q k/\∃d,w'=w.drewN d:=by
 obtain⟨ar,cr,rfl,hc⟩:=h;have HC:Hh (∀j,j<rows.length->∃(b o:Nat) (O:Option Addr) (lr cu:Nat),ar=some (az b o)/\w.cell? (az b (o+j))=some (.slice O lr cu)/\q.length<=lr/\lr<=cu/\(O=none->lr=0)/\∀d ad,O=some ad->Cl 48 #[.slice (some ad) q.length cu,vq] (w.drewN d) λe w'=>e=.returned (ai (qE ((rows.getD j []).take q.length) q))/\∃q',w'=(w.drewN d).drewN q'):=ay λj hj=>by
  rcases hc with h0|⟨b,o,rfl,h⟩;omega;obtain⟨u,U,hI,a',n',c',e,a5⟩:=h j hj;have hm:=hl _ (by rw[gD,gE hj];exact gM _:rows.getD j []∈rows);have a9:=hI;obtain⟨O,cu,eu,M⟩:=hI;subst eu;simp only[Value.slice.injEq]at e;obtain⟨-,rfl,rfl⟩:=e;refine⟨b,o,O,_,cu,rfl,U,hm.1,a5,λe=>?_,λd ad e=>?_⟩
  ·rcases M with M|⟨b2,o2,e2,-⟩;exact M;rw[e]at e2;cases e2
  subst e;have h3:=VK a9 hm.1;exact zL (w.drewN d) _ vq _ q (h3.below (below_drewN (bJ _ _) d)) (hq.below (below_drewN (bJ _ _) d)) (by rw[bW];omega) Oo
 have HD:Hh (∀i j,i<=j->j<rows.length->qE ((rows.getD j []).take q.length) q<0->qE ((rows.getD i []).take q.length) q<0):=ay λi j b0 hj hc=>qBO hS b0 hj hc;have HF:Hh (∀k,k<=rows.length->(∀t,t<k->qE ((rows.getD t []).take q.length) q<0)->(∀t,k<=t->t<rows.length->¬qE ((rows.getD t []).take q.length) q<0)->Sk rows q k):=ay λk U M h3=>⟨U,M,h3⟩;have KN:Hh (q.length=0->∀d cu j,Cl 48 #[.slice none 0 cu,vq] (w.drewN d) λe w'=>e=.returned (ai (qE ((rows.getD j []).take q.length) q))/\∃q',w'=(w.drewN d).drewN q'):=ay λh0 d cu j=>by
  rw[h0,List.take_zero];exact zL (w.drewN d) _ vq [] q ⟨none,cu,rfl,Or.inl rfl⟩ (hq.below (below_drewN (bJ _ _) d)) Ss Oo
 clear hc hS hl;obtain⟨aq,cq,rfl,-⟩:=hq;generalize rows.length=n at *;generalize hm:q.length=m at *;have b7:=ay hm;clear hm;obtain⟨C,hC⟩:=Ex (λj=>qE ((rows.getD j []).take m) q:Nat->Int);have a6:Hh (∀j,qE ((rows.getD j []).take m) q=C j):=ay λj=>by rw[hC]
 simp only[a6.o]at HC HD HF KN;clear hC a6;go_enter Tryz.func47,Tryz.ntmps47;go_wp2;go_loopg [5,6] n (λg s5 s6 wr=>∃lo hi d:Nat,s5=ai lo/\s6=ai hi/\lo<=hi/\hi<=n/\hi-lo<=g/\wr=w.drewN d/\Hh ((∀t,t<lo->C t<0)/\(∀t,hi<=t->t<n->¬C t<0)))
 case atStart=>exact⟨0,n,0,rfl,rfl,nZ _,nR _,Oo,rfl,ay ⟨λt ht=>absurd ht (Nat.not_lt_zero _),λt U M=>Oo⟩⟩
 case round=>
  obtain⟨lo,hi,d,rfl,rfl,b8,a7,hg,rfl,I⟩:=hrel;by_cases b9:lo<hi
  ·obtain⟨b,o,O,lr,cu,ea,c1,c7,c8,a8,K⟩:=HC.o ((lo+hi) / 2) Oo;subst ea;have c9:m<=cu:=Oo;have KC:Hh (∀d,Cl 48 #[.slice O m cu,.slice aq m cq] (w.drewN d) λe w'=>e=.returned (ai (C ((lo+hi) / 2)))/\∃q',w'=(w.drewN d).drewN q'):=ay λd=>by
    cases O with
    |none=>
     have h0:m=0:=by have:=a8 rfl;omega
     have:=KN.o h0 d cu ((lo+hi) / 2);rw[h0]at this ⊢;exact this
    |some ad=>exact K d ad rfl
   have V:Hh (C ((lo+hi) / 2)<0->∀t,t<(lo+hi) / 2+1->C t<0):=ay λh t ht=>HD.o t ((lo+hi) / 2) Oo Oo h;have a3:Hh (¬C ((lo+hi) / 2)<0->∀t,(lo+hi) / 2<=t->t<n->¬C t<0):=ay λh t U M h3=>h (HD.o ((lo+hi) / 2) t U M h3);clear K a8 HC KN HD HF;generalize C ((lo+hi) / 2)=y at *;by_cases hy:y<0
   ·have a4:Hh ((∀t,t<(lo+hi) / 2+1->C t<0)/\(∀t,hi<=t->t<n->¬C t<0)):=ay ⟨V.o hy,I.o.2⟩;have b1:decide (y<0)=true:=decide_eq_true hy;clear I V a3;go_wp2_with fail;refine(KC.o _).mono ?_;rintro e w2 ⟨rfl,d2,rfl⟩;go_wp2_with fail;go_roundg (hi-((lo+hi) / 2+1))
    case measure=>omega
    case rel=>exact⟨(lo+hi) / 2+1,hi,_,by rw[show((lo:Int)+(hi:Int)) / 2+1=(((lo+hi) / 2+1:Nat):Int)by omega],rfl,Oo,a7,nR _,rfl,a4⟩
   have a4:Hh ((∀t,t<lo->C t<0)/\(∀t,(lo+hi) / 2<=t->t<n->¬C t<0)):=ay ⟨I.o.1,a3.o hy⟩;have b1:decide (y<0)=false:=decide_eq_false hy;clear I V a3;go_wp2_with fail;refine(KC.o _).mono ?_;rintro e w2 ⟨rfl,d2,rfl⟩;go_wp2_with fail;go_roundg ((lo+hi) / 2-lo)
   case measure=>omega
   case rel=>exact⟨lo,(lo+hi) / 2,_,rfl,by rw[show((lo:Int)+(hi:Int)) / 2=(((lo+hi) / 2:Nat):Int)by omega],Oo,Oo,nR _,rfl,a4⟩
  obtain rfl:hi=lo:=Oo;have HE:=ay (HF.o hi a7 I.o.1 (λt U M=>by have:=I.o.2 t U M;omega));clear HC HD HF KN I;go_wp2_with fail;go_ret;exact⟨_,rfl,HE.o,_,rfl⟩
theorem VL(w:World)(vr O:Value)(rows:LL)(q:LI)(h:ISSc w vr rows)(hq:IS w O q)(hS:SL rows)(hn:rows.length<=1099511627776)(hl:∀r∈rows,q.length<=r.length/\r.length<=1099511627776):
 Cl 93 #[vr,O] w λe w'=>e=.returned (.bool (y7 rows q))/\∃d,w'=w.drewN d:=by
 have KS:=ay (jT w vr O rows q h hq hS hn hl);have HB:Hh (∀k,Sk rows q k->k<=rows.length/\y7 rows q=(decide (k<rows.length)&&decide (qE ((rows.getD k []).take q.length) q=0))):=ay λk V=>⟨V.le,V.beg hS⟩;obtain⟨ar,cr,rfl,hc⟩:=h;have HC:Hh (∀j,j<rows.length->∃(b o:Nat) (U:Option Addr) (lr cu:Nat),ar=some (az b o)/\w.cell? (az b (o+j))=some (.slice U lr cu)/\q.length<=lr/\lr<=cu/\∀d,Cl 48 #[.slice U q.length cu,O] (w.drewN d) λe w'=>e=.returned (ai (qE ((rows.getD j []).take q.length) q))/\∃q',w'=(w.drewN d).drewN q'):=ay λj hj=>by
  rcases hc with h0|⟨b,o,rfl,h⟩;omega;obtain⟨u,h1,hI,a',n',c',e,a3⟩:=h j hj;have hm:=hl _ (by rw[gD,gE hj];exact gM _:rows.getD j []∈rows);have a6:=hI;obtain⟨U,cu,eu,h2⟩:=hI;subst eu;simp only[Value.slice.injEq]at e;obtain⟨-,rfl,rfl⟩:=e;refine⟨b,o,U,_,cu,rfl,h1,hm.1,a3,λd=>?_⟩;have a4:=hq.below (below_drewN (bJ _ _) d);cases U with
  |none=>
   have h0:(rows.getD j []).length=0:=by
    rcases h2 with h2|⟨b2,o2,e2,-⟩;exact h2;cases e2
   have e1:(rows.getD j []).take q.length=[]:=by rw[List.length_eq_zero_iff.1 h0,List.take_nil]
   have e2:q.length=0:=Oo;rw[e1,e2];exact zL (w.drewN d) _ O [] q ⟨none,cu,rfl,Or.inl rfl⟩ a4 Ss Oo
  |some ad=>
   have h3:=VK a6 hm.1;exact zL (w.drewN d) _ O _ q (h3.below (below_drewN (bJ _ _) d)) a4 (by rw[bW];omega) Oo
 clear hc hS hl;obtain⟨aq,cq,rfl,-⟩:=hq;generalize y7 rows q=ans at *;obtain⟨C,hC⟩:=Ex (λj=>qE ((rows.getD j []).take q.length) q:Nat->Int);have a5:Hh (∀j,qE ((rows.getD j []).take q.length) q=C j):=ay λj=>by rw[hC]
 simp only[a5.o]at HC HB;clear hC a5;generalize rows.length=n at *;generalize q.length=m at *;go_enter Tryz.func93,Tryz.ntmps93;go_wp2_with fail;refine KS.o.mono ?_;rintro e w2 ⟨k,rfl,V,d,rfl⟩;obtain⟨a7,I⟩:=HB.o k V;clear KS HB V;by_cases M:k<n
 ·obtain⟨b,o,U,lr,cu,ea,c1,a8,a9,K⟩:=HC.o k M;subst ea;have i1:(k:Int)<(n:Int):=Oo;have b0:m<=cu:=Oo;have KC:=ay K;have HA:Hh (ans=decide (C k=0)):=ay (by rw[I,decide_eq_true M,Bool.true_and]);clear K HC I;generalize C k=y at *;go_wp2_with fail;refine(KC.o _).mono ?_;rintro e w3 ⟨rfl,d3,rfl⟩;go_wp2_with fail;go_ret;exact⟨qK (by rw[HA.o];first|rfl|simp),_,rfl⟩
 have i1:¬((k:Int)<(n:Int)):=Oo;rw[decide_eq_false M,Bool.false_and]at I;subst I;clear HC;go_wp2_with fail;go_ret;exact⟨rfl,_,rfl⟩
def SdAt(W:World)(b o:Nat)(s:SdM):Prop:=∃a0 c0 a1 c1,W.cell? (az b o)=some (.slice a0 s.vars.length c0)/\W.cell? (az b (o+1))=some (.slice a1 s.rows.length c1)/\IS W (.slice a0 s.vars.length c0) s.vars/\ISSc W (.slice a1 s.rows.length c1) s.rows
def ISds(W:World)(v:Value)(ss:List SdM):Prop:=∃a cap,v=.slice a ss.length cap/\(ss.length=0∨∃b o,a=some (az b o)/\∀j,j<ss.length->SdAt W b (o+j*2) (ss.getD j qb))
theorem SdAt.below{o:Nat}{s:SdM}(h:SdAt W b o s)(hb:Bl W W'):SdAt W' b o s:=by
 obtain⟨a0,c0,a1,c1,I,K,M,O⟩:=h;exact⟨a0,c0,a1,c1,(hb.cell (bL W _ I)).trans I,(hb.cell (bL W _ K)).trans K,M.below hb,O.below hb⟩
def ze(o:LI)(ss:List SdM)(n:Nat):Nat:=ss.findIdx λs=>qO o s.vars n
theorem qFR{I:List SdM}{n:Nat}(h:∃s∈I,qO o s.vars n=true):ze o I n<I.length:=List.findIdx_lt_length_of_exists h
theorem qA7{I:List SdM}{n:Nat}(h:ze o I n<I.length):qO o (I.getD (ze o I n) qb).vars n=true:=by
 have:=List.findIdx_getElem (w:=h);rw[gD,gE h];exact this
theorem qFS{I:List SdM}{n j:Nat}(h:j<ze o I n)(K:j<I.length):qO o (I.getD j qb).vars n=false:=by
 have:=List.not_of_lt_findIdx h;rw[gD,gE K];exact this
def xK(o:LI)(ss:List SdM)(p:LI)(x:Int)(j:Nat):Bool:=(List.range j).all λt=>decide (t=ze o ss p.length)||!qO o (ss.getD t qb).vars p.length||y7 (ss.getD t qb).rows (prt (qO o (ss.getD t qb).vars) p++[x])
theorem qC4(o:LI)(I:List SdM)(p:LI)(x:Int)(j:Nat):xK o I p x (j+1)=(xK o I p x j&&(decide (j=ze o I p.length)||!qO o (I.getD j qb).vars p.length||y7 (I.getD j qb).rows (prt (qO o (I.getD j qb).vars) p++[x]))):=by
 unfold xK;rw[List.range_succ,List.all_append];simp
theorem qFT{I:List SdM}(a5:∀s∈I,s.Ok){p:LI}(hH:Hld (I.map (sdO o)) p)(hf:ze o I p.length<I.length)(a3:∀s∈I,qO o s.vars p.length=true->(prt (qO o s.vars) p).length<s.vars.length):
 xf (I.map (sdO o)) p=(VA (I.getD (ze o I p.length) qb).rows (prt (qO o (I.getD (ze o I p.length) qb).vars) p) (kA (I.getD (ze o I p.length) qb).rows (prt (qO o (I.getD (ze o I p.length) qb).vars) p)) (nA (I.getD (ze o I p.length) qb).rows (prt (qO o (I.getD (ze o I p.length) qb).vars) p))).filter λx=>xK o I p x I.length:=by
 have M:∀j,j<I.length->I.getD j qb∈I:=λj hj=>by rw[gD,gE hj];exact gM hj
 have hm:=M _ hf;have hh:=qA7 hf;have K:∀s∈I.map (sdO o),s.Ok:=λs hs=>by
  obtain⟨t,V,rfl⟩:=List.mem_map.1 hs;exact qCy (a5 t V)
 rw[ZS K (List.mem_map_of_mem hm) hH hh];unfold vN;have hc:=a3 _ hm hh;have e:(sdO o (I.getD (ze o I p.length) qb)).N (prt (sdO o (I.getD (ze o I p.length) qb)).H p)=VA (I.getD (ze o I p.length) qb).rows (prt (qO o (I.getD (ze o I p.length) qb).vars) p) (kA (I.getD (ze o I p.length) qb).rows (prt (qO o (I.getD (ze o I p.length) qb).vars) p)) (nA (I.getD (ze o I p.length) qb).rows (prt (qO o (I.getD (ze o I p.length) qb).vars) p)):=if_pos hc;rw[e];refine List.filter_congr λx hx=>?_;rw[<-e]at hx;rw[Bool.eq_iff_iff,jP];unfold xK;rw[aT];constructor
 ·intro h t V;have U:=List.mem_range.1 V;by_cases e1:t=ze o I p.length;simp[e1];cases hb:qO o (I.getD t qb).vars p.length
  simp;have O:=h _ (List.mem_map_of_mem (M t U)) hb;rw[(K _ (List.mem_map_of_mem (M t U))).tm.mem _ (hH _ (List.mem_map_of_mem (M t U)))]at O;rcases O with O|O;simp at O;have h2:y7 (I.getD t qb).rows (prt (qO o (I.getD t qb).vars) p++[x])=true:=Jh.2 O;rw[h2,Bool.or_true]
 intro h s hs a4;obtain⟨q,hq,rfl⟩:=List.mem_map.1 hs;obtain⟨t,V,rfl⟩:=gO hq;have hg:I.getD t qb=I[t]:=by rw[gD,gE V];rfl
 rw[<-hg]at hs a4 ⊢;by_cases e1:t=ze o I p.length;rw[e1];exact hx;have O:=h t (List.mem_range.2 V);have a6:qO o (I.getD t qb).vars p.length=true:=a4;rw[decide_eq_false e1,a6]at O;have h2:y7 (I.getD t qb).rows (prt (qO o (I.getD t qb).vars) p++[x])=true:=by simpa using O
 exact((K _ hs).tm.mem _ (hH _ hs) x).2 (Or.inr (Jh.1 h2))
theorem upJ{o:Nat}(hb:Bl X Y)(I:X.cell? (az b o)=some v):Y.cell? (az b o)=some v:=(hb.cell (p:=(az b o)) (bL X _ I)).trans I
theorem qBv(W:World)(x0 x1:Value):Bl W (W.alloc (.cells #[x0,x1] 123))/\(W.alloc (.cells #[x0,x1] 123)).cell? (az W.1.size 0)=some x0/\(W.alloc (.cells #[x0,x1] 123)).cell? (az W.1.size 1)=some x1:=by
 refine⟨aK,?_,?_⟩;all_goals(rw[bE _ _ _ _ rfl];rfl)
structure JN(w W:World)(g3:Nat)(PB:Obj)(g c lk:Nat)(L:LI):Prop where
 bel:Bl w W
 prt:W.1[g3]?=some PB
 own:W.ownsRow w.1.size 3 1 (.slice (some (az g 0)) lk c) lk (L.map ai)
 ne:g≠g3
theorem ltJ{o:Obj}(h:W.1[b]?=some o):b<W.1.size:=(Array.getElem?_eq_some_iff.1 h).1
theorem JN.below(h:JN w W g3 PB g c lk L)(hb:Bl W W'):JN w W' g3 PB g c lk L:=
 ⟨bt h.bel hb,(hb.block _ (ltJ h.prt)).trans h.prt,qB h.own hb,h.ne⟩
theorem JN.push{g' c':Nat}{o:Obj}(h:JN w W g3 PB g c lk L)(O:(W.alloc o).grownBy w3 (Value.slice (some (az g 0)) lk c).ownBlock)(I:w3.ownsRow w.1.size 3 1 (.slice (some (az g' 0)) (lk+1) c') (lk+1) (L.map ai++[ai x]))(K:(Value.slice (some (az g 0)) lk c).ownBlock=some g'∨g'=(W.alloc o).1.size):JN w w3 g3 PB g' c' (lk+1) (L++[x]):=by
 have hl:=ltJ h.prt;refine⟨?_,?_,by rw[mA];exact I,?_⟩;exact(h.bel.alloc h.bel.size _).grown O (by rw[World.size_alloc];have:=h.bel.size;omega) (λq hq=>(h.own.lt q hq).1);exact(zR O hl (λe=>h.ne (by simp[Value.ownBlock]at e;exact e.symm))).trans h.prt;rcases K with M|M
 ·have:g=g':=by simpa[Value.ownBlock]using M
  rw[<-this];exact h.ne
 rw[M,World.size_alloc];omega
theorem qEA{a:Addr}(hb:Bl X Y)(I:X.cell? a=some v):Y.cell? a=some v:=(hb.cell (bL X _ I)).trans I
theorem qFU{n:Nat}(h:w.ownsRow B 3 1 v (n+1) (l.map ai++[ai x])):IS w v (l++[x]):=by
 have e:n+1=(l++[x]).length:=by have:=h.1;simp at this;simp;omega
 rw[e]at h;exact qS (by rw[mA];exact h)
section
variable {P:Program} (w:World)
theorem QO{ops:Array Oper}{o:Oper}{a:Act}{K:Act->World->Prop}{Q:Exit->Act->World->Prop}{E:Prop}(hw:Region.wanted o (yielded ops a.tmps)=true)(s x:Operand)(t:TypeId)
 (ho:o.op=.call { callee:=.builtin .append,args:=#[s,x],argTypes:=#[t,t] })
 (base:Nat) (e:TypeId) (i:TypeInfo) (z:Value) (size bytes:Nat) (ht:P.underlying t=some (.slice e)) (hi:P.info? e=some i) (hz:i.zero=some z)
 (M:i.size=size) (a3:i.bytes=bytes) (a4:z.cells.size=size) (a5:0<size)
 (v:Value) (n:Nat) (xs:List Value) (hs:a.eval s=v) (V:w.ownsRow base e size v n xs)
 (ad:Addr) (m c:Nat) (news:List Value) (hx:a.eval x=.slice (some ad) m c) (hl:news.length=m*size) (O:∀j u,news[j]?=some u->w.cell? (ad.add j)=some u) (h1:∀u∈news,u.oneCell'=true)
 (hm:0<m) (a6:n+m<=maxLen) (I:(n+m)*bytes<=140737488355328) (U:base<=w.1.size) (H:Nat) (hH:w.1.size=H)
 (h:∀g cap w',w'.ownsRow base e size (.slice (some (az g 0)) (n+m) cap) (n+m) (xs++news)->w.grownBy w' v.ownBlock->(v.ownBlock=some g∨g=H)->g<w'.1.size->K (a.put o.dst (.slice (some (az g 0)) (n+m) cap)) w'):
 if Region.wanted o (yielded ops a.tmps)=true then Oper.wp P o a w K Q else E:=by
 rw[if_pos hw];exact wp_append_lies w s x t ho base e i z size bytes ht hi hz M a3 a4 a5 v n xs hs V ad m c news hx hl O h1 hm a6 I U H hH h
end
theorem Jm(w:World)(v vo vp:Value)(I:List SdM)(o p:LI)(h:ISds w v I)(ho:IS w vo o)(hp:IS w vp p)(k5:p.length<o.length)(t0:o.length<=1000)(t1:I.length<=1000)(i5:∀s∈I,s.Ok/\s.rows.length<=100000/\s.vars.length<=1000)(hH:Hld (I.map (sdO o)) p)(hf:ze o I p.length<I.length)(d8:∀s∈I,(prt (qO o s.vars) p).length<=s.vars.length/\(qO o s.vars p.length=true->(prt (qO o s.vars) p).length<s.vars.length)):
 Cl 65 #[v,vo,vp] w λe w'=>∃g c,e=.returned (.slice (some (az g 0)) (xf (I.map (sdO o)) p).length c)/\w'.ownsRow w.1.size 3 1 (.slice (some (az g 0)) (xf (I.map (sdO o)) p).length c) (xf (I.map (sdO o)) p).length ((xf (I.map (sdO o)) p).map ai)/\Bl w w':=by
 obtain⟨i0,hi,k6,k7,k8⟩:=info_parts Tryz.infoInt;rw[qFT (λs hs=>(i5 s hs).1) hH hf (λs hs=>(d8 s hs).2)];have i6:∀j,j<I.length->I.getD j qb∈I:=λj hj=>by rw[gD,gE hj];exact gM hj
 have i7:=qA7 hf;have d9:∀j,j<ze o I p.length->j<I.length->qO o (I.getD j qb).vars p.length=false:=λj h1 h2=>qFS h1 h2;obtain⟨aS,cS,rfl,hS⟩:=h;rcases hS with h0|⟨bS,oS,rfl,hS⟩;omega;have HO:=ay ho;have HP:=ay hp;obtain⟨ao,co,rfl,i8⟩:=ho;obtain⟨ap,n6,rfl,-⟩:=hp;rcases i8 with h0|⟨bo,qo,rfl,i8⟩;omega;have c1:w.cell? (az bo (qo+p.length))=some (ai (o.getD p.length 0)):=i8 p.length k5;obtain⟨F,hF⟩:=Ex (ze o I p.length);rw[<-hF]at hf i7 d9 ⊢;have n7:Hh (∀x j,xK o I p x (j+1)=(xK o I p x j&&(decide (j=F)||!qO o (I.getD j qb).vars p.length||y7 (I.getD j qb).rows (prt (qO o (I.getD j qb).vars) p++[x])))):=ay λx j=>by rw[qC4,hF]
 have t2:Hh (∀x,xK o I p x 0=true):=ay λx=>rfl;obtain⟨AN,k9⟩:=Ex ((VA (I.getD F qb).rows (prt (qO o (I.getD F qb).vars) p) (kA (I.getD F qb).rows (prt (qO o (I.getD F qb).vars) p)) (nA (I.getD F qb).rows (prt (qO o (I.getD F qb).vars) p))).filter λx=>xK o I p x I.length);rw[<-k9];have t3:=ay k9;clear hF hH i8 k9;obtain⟨n,hn⟩:=Ex p.length;obtain⟨no,l0⟩:=Ex o.length;obtain⟨O,l1⟩:=Ex I.length;have HN:=ay (And.intro hn (And.intro l0 l1));have KH:Hh (∀W a0 c0 j,j<O->IS W (.slice a0 (I.getD j qb).vars.length c0) (I.getD j qb).vars->Cl 62 #[.slice a0 (I.getD j qb).vars.length c0,ai (o.getD p.length 0)] W λe w'=>e=.returned (.bool (qO o (I.getD j qb).vars p.length))/\w'=W):=ay λW a0 c0 j hj hI=>zm W _ _ _ hI (by have:=(i5 _ (i6 j Oo)).2.2;omega);rw[<-hn]at c1 k5 i7 d9 KH n7 ⊢;rw[<-l0]at k5 t0 ⊢;rw[<-l1]at t1 hf d9 i6 hS ⊢;have HS:=ay hS;have t4:=ay d9;have n8:=ay i7;have n9:=ay i5;have o3:=ay d8;have i9:=ay i6;clear hn l0 l1 hS d9 i7 i5 d8 i6;generalize o.getD n 0=ov at *;have o4:(n:Int)<(no:Int):=Oo;obtain⟨W1,j0⟩:=Ex (w.alloc (.cells #[] 3));have l2:Hh (Bl w W1):=ay (by rw[j0];exact(bJ _ _).alloc (nR _) _);have o5:Hh (W1.ownsRow w.1.size 3 1 (.slice (some (az w.1.size 0)) 0 0) 0 []):=ay (by rw[j0];exact oM w #[] 0 (nR _) Dd rfl);go_enter Tryz.func65,Tryz.ntmps65;go_upto_region 3 with fail;rw[<-j0];clear j0 c1;go_upto_block 0 with fail;go_cut [9] (λv9 wx=>v9=ai (F:Int)/\Hh (Bl W1 wx))
 case first=>
  go_wp2_with fail;go_loopw [9,28] (λv9 t wr=>∃U:Nat,U<=O/\t=ai U/\v9=ai (if F<U then (F:Int) else -1)/\Hh (Bl W1 wr)) (λ_ t _=>O-(intOf t).toNat);exact⟨0,nZ _,rfl,by rw[if_neg Oo],ay (bJ _ _)⟩;obtain⟨U,A9,rfl,rfl,HB⟩:=hrel;by_cases a5:U<O
  ·have i1:(U:Int)<(O:Int):=Oo;obtain⟨a0,c0,a1,e4,e0,e1,e2,-⟩:=HS.o U a5;have K:=bt l2.o HB.o;replace e0:=upJ K e0;replace e1:=upJ K e1;obtain⟨l3,d0,d1⟩:=qBv wr (.slice a0 (I.getD U qb).vars.length c0) (.slice a1 (I.getD U qb).rows.length e4);have t5:=ay (e2.below (bt K l3));have l4:=ay (bt HB.o l3);clear e2 l3 K;have HK:=ay (KH.o _ a0 c0 U a5 t5.o);by_cases o6:F<U
   ·rw[if_pos o6];have i2:¬(F:Int)<0:=Oo;clear HK KH;go_wp2_with fail;go_roundw;exact⟨U+1,Oo,Gg,by rw[if_pos Oo],l4⟩;exact Im
   rw[if_neg o6];by_cases l5:U=F
   ·have hy:qO o (I.getD U qb).vars n=true:=by rw[l5];exact n8.o
    rw[hy]at HK;have HEq:=ay l5;have o7:F<U+1:=Oo;clear KH hy l5;go_wp2_with (first|(go_at_call 62;refine HK.o.mono ?_;rintro e w2 ⟨rfl,t6⟩;subst w2)|fail);go_roundw;exact⟨U+1,Oo,Gg,by rw[if_pos o7,HEq.o],l4⟩;exact Im
   have hy:qO o (I.getD U qb).vars n=false:=t4.o U Oo a5;rw[hy]at HK;clear KH hy;go_wp2_with (first|(go_at_call 62;refine HK.o.mono ?_;rintro e w2 ⟨rfl,t6⟩;subst w2)|fail);go_roundw;exact⟨U+1,Oo,Gg,by rw[if_neg Oo],l4⟩;exact Im
  obtain rfl:U=O:=Oo;have i1:¬(U:Int)<(U:Int):=Oo;rw[if_pos Oo];go_wp2_with fail;go_meet;exact⟨rfl,HB⟩
 case rest=>
 obtain⟨rfl,hcut⟩:=hcut;have l6:=hcut;clear hcut;generalize wc=W2 at *;obtain⟨a0,c0,a1,e4,e0,e1,e2,e3⟩:=HS.o F hf;have K:=bt l2.o l6.o;have B0:(F:Int)<(O:Int):=Oo;replace e0:=upJ K e0;replace e1:=upJ K e1;have t7:=ay (e2.below K);have o8:=ay (e3.below K);have o9:=ay e3;have B1:=ay K;obtain⟨⟨e5,b7⟩,t8,l7⟩:=n9.o _ (i9.o F hf);obtain⟨-,p5⟩:=o3.o _ (i9.o F hf);have z8:=p5 (by have:=n8.o;rw[HN.o.1]at this;exact this);have l8:=ay e5;have j2:=ay b7;clear e2 e3 e5 b7 p5;generalize hfd:I.getD F qb=f at *;have B2:=ay hfd;clear hfd;have p6:Hh (∀W,Bl W2 W->Cl 92 #[.agg #[.slice a0 f.vars.length c0,.slice a1 f.rows.length e4],.slice (some (az bo qo)) no co,.slice ap n n6] W λe w'=>∃g c,e=.returned (.slice (some (az g 0)) (prt (qO o f.vars) p).length c)/\w'.ownsRow W.1.size 3 1 (.slice (some (az g 0)) (prt (qO o f.vars) p).length c) (prt (qO o f.vars) p).length ((prt (qO o f.vars) p).map ai)/\Bl W w'):=ay λW hW=>by
  have h1:=HO.o.below (bt K hW);have h2:=HP.o.below (bt K hW);have:=Qr W a0 a1 f.rows.length c0 e4 _ _ f.vars o p (t7.o.below hW) h1 h2 (by have:=HN.o;omega) (by have:=HN.o;omega) l7;rw[<-HN.o.1,<-HN.o.2.1]at this;exact this
 generalize hq:prt (qO o f.vars) p=q at *;have HQ:=ay hq;clear hq;go_upto_region 12 with (first|(go_at_call 92;refine(p6.o W2 (bJ _ _)).mono ?_;rintro e w3 ⟨g3,c3,rfl,j3,l9⟩)|fail);have p7:=ay (qS j3);have p8:=ay (o8.o.below l9);have m0:=ay (bt l6.o l9);have p9:=ay j3;have e6:=j3.lt g3 rfl;have z9:=l6.o.size;have A0:w.1.size<W1.1.size:=(o5.o.lt w.1.size rfl).2;have m1:=ay (jT w3 _ _ f.rows q p8.o p7.o l8.o Oo (λr hr=>by have:=j2.o r hr;omega));have m2:Hh (∀d,JN w (w3.drewN d) g3 (w3.1[g3]'e6.2) w.1.size 0 0 []):=ay λd=>⟨below_drewN (bt l2.o m0.o) d,Array.getElem?_eq_getElem e6.2,qB o5.o (below_drewN m0.o d),Oo⟩;have q0:Hh (∀W,W.1[g3]?=some (w3.1[g3]'e6.2)->IS W (.slice (some (az g3 0)) q.length c3) q):=ay λW hW=>qS (qC p9.o λb hb=>by
  have e:g3=b:=by simpa[Value.ownBlock]using hb
  subst e;rw[hW,Array.getElem?_eq_getElem e6.2])
 generalize w3.1[g3]'e6.2=PB at m2 q0;clear j3 l9 p6 e0 e1;go_upto_region 13 with (first|(go_at_call 47;refine m1.o.mono ?_;rintro e w4 ⟨k,rfl,j4,dq,rfl⟩)|fail);have m3:=ay (m2.o dq);generalize w3.drewN dq=W4 at m3 ⊢;obtain⟨R,hR⟩:=Ex f.rows;obtain⟨nr,e7⟩:=Ex f.rows.length;have t9:=ay hR;have a6:Hh (nr=R.length):=ay (by rw[hR];exact e7);have v6:k<=nr:=by rw[e7];exact j4.le
 rw[<-hR]at l8 j2 j4 m1;have v7:Hh (ISSc w (.slice a1 nr e4) R):=ay (by rw[hR,e7];exact o9.o);have A1:nr<=100000:=Oo;rw[<-e7];have x3:=ay j4;have a4:Hh (∀m,Run R q k m->(k+m<nr->(R.getD (k+m) []).take q.length≠q)->((VA R q k m).filter λx=>xK o I p x O)=AN):=ay λm h1 h2=>by
  obtain⟨e1,e2⟩:=qD6 l8.o x3.o h1 (by have:=a6.o;rw[<-this];exact h2);rw[t3.o,<-t9.o,<-e1,<-e2,HN.o.2.2]
 clear hR e7 j4 m1 p8 o8 o9 m2 m0 p9 p7;go_upto_block 2 with fail;go_wp2_with fail;go_loopg [8,15] (nr-k) (λgk v8 x4 wx=>∃(m g c lk:Nat),k+m<=nr/\x4=ai ((k+m:Nat):Int)/\v8=.slice (some (az g 0)) lk c/\lk<=m/\gk=nr-(k+m)/\Hh (Run R q k m/\lk=((VA R q k m).filter λx=>xK o I p x O).length/\JN w wx g3 PB g c lk ((VA R q k m).filter λx=>xK o I p x O)))
 case atStart=>exact⟨0,w.1.size,0,0,v6,Fl,rfl,nR _,Oo,ay ⟨⟨by have:=a6.o;omega,λj hj=>Oo⟩,rfl,m3.o⟩⟩
 case round=>
  clear m3;obtain⟨m,g,c,lk,B3,rfl,rfl,B4,B5,HI⟩:=hrel;generalize wr=wo at *;obtain⟨k1,k2,q8⟩:=HI.o;have e8:=ay k1;have f7:=ay k2;have V:=ay q8;clear HI k1 k2 q8;by_cases x5:k+m<nr
  ·have q1:((k+m:Nat):Int)<(nr:Int):=Oo;obtain⟨aR,cR,eR,f8⟩:=v7.o;simp only[Value.slice.injEq]at eR;obtain⟨rfl,-,rfl⟩:=eR;rcases f8 with h0|⟨bR,oR,rfl,f8⟩;have:=a6.o;omega;obtain⟨u,hu,⟨au,cu,rfl,f9⟩,k3⟩:=f8 (k+m) (by have:=a6.o;omega);have x7:R.getD (k+m) []∈R:=by rw[gD,gE (by have:=a6.o;omega)];exact gM _
   have b7:=j2.o _ x7;rcases f9 with h0|⟨bU,oU,rfl,f9⟩;omega;have y0:(R.getD (k+m) []).length<=cu:=by obtain⟨_,_,_,e9,h9⟩:=k3;simp only[Value.slice.injEq]at e9;omega
   have q9:=ay f8;obtain⟨lr,r3⟩:=Ex ((R.getD (k+m) []).length);have r4:wo.cell? (az bR (oR+(k+m)))=some (.slice (some (az bU oU)) lr cu):=by rw[r3];exact upJ V.o.bel hu
   have a7:Hh (∀W,W.1[g3]?=some PB->Bl w W->Cl 48 #[.slice (some (az bU oU)) q.length cu,.slice (some (az g3 0)) q.length c3] W λe w'=>e=.returned (ai (qE ((R.getD (k+m) []).take q.length) q))/\∃d,w'=W.drewN d):=ay λW h1 h2=>zL W _ _ _ _ (VK ((show IS w (.slice (some (az bU oU)) (R.getD (k+m) []).length cu) (R.getD (k+m) []) from ⟨_,_,rfl,Or.inr ⟨bU,oU,rfl,f9⟩⟩).below h2) Oo) (q0.o W h1) (by rw[bW];omega) Oo;have cX:wo.cell? (az bU (oU+q.length))=some (ai (vlA R q (k+m))):=upJ V.o.bel (f9 q.length Oo);have A2:(q.length:Int)<(lr:Int):=Oo;have A3:(q.length:Int)<=(cu:Int):=Oo;clear f8 k3 hu f9 r3 y0 b7;by_cases hz:(R.getD (k+m) []).take q.length=q
   ·rw[hz,zt]at a7;have HZ:=ay hz;clear hz;have j5:=ay (a7.o wo V.o.prt V.o.bel);clear a7;go_upto_if 74 with (first|(go_at_call 48;refine j5.o.mono ?_;rintro e w5 ⟨rfl,d5,rfl⟩)|fail);have b8:=ay (V.o.below (below_drewN (bJ _ _) d5));have m4:(wo.drewN d5).cell? (az bU (oU+q.length))=some (ai (vlA R q (k+m))):=cX;have r5:(wo.drewN d5).cell? (az bR (oR+(k+m)))=some (.slice (some (az bU oU)) lr cu):=r4;generalize wo.drewN d5=W5 at b8 m4 r5 ⊢;have g4:Run R q k (m+1):=⟨by have:=a6.o;omega,λj hj=>by
     by_cases e:j=m;subst e;exact HZ.o;exact e8.o.beg j Oo⟩
    have b9:=ay g4;obtain⟨x,hx⟩:=Ex (vlA R q (k+m));have HX:=ay hx;rw[<-hx]at m4;obtain⟨nw,m5⟩:=Ex (Qo R q k m);have m6:=ay m5;have r6:Hh (0<m->∃bP oP lp cp y,W5.cell? (az bR (oR+(k+m-1)))=some (.slice (some (az bP oP)) lp cp)/\q.length<lp/\W5.cell? (az bP (oP+q.length))=some (ai y)/\(y == x)=!nw):=ay λhm=>by
     obtain⟨u',y1,⟨B7,y2,rfl,g5⟩,-⟩:=q9.o (k+m-1) (by have:=a6.o;omega);have r7:R.getD (k+m-1) []∈R:=by rw[gD,gE (by have:=a6.o;omega)];exact gM _
     have A4:=j2.o _ r7;rcases g5 with h0|⟨bP,oP,rfl,g5⟩;omega;refine⟨bP,oP,_,y2,vlA R q (k+m-1),upJ b8.o.bel y1,Oo,upJ b8.o.bel (g5 q.length Oo),?_⟩;rw[m5,hx];unfold Qo;rw[decide_eq_false (show ¬m=0 by omega),Bool.false_or,Bool.not_not];rfl
    clear cX r4 j5 g4 hx m5 q9;go_upto_region 17 with fail;clear m4 r5;go_cut [100] from 59 to 135 (λu wx=>u=.bool (!nw)/\wx=W5)
    case first=>
     by_cases y3:0<m
     ·obtain⟨bP,oP,lp,cp,y,p1,p2,p3,p4⟩:=r6.o y3;have q3:(k:Int)<(k:Int)+(m:Int):=Oo;have q4:(k:Int)+(m:Int)-1=((k+m-1:Nat):Int):=Oo;have q5:((k+m-1:Nat):Int)<(nr:Int):=Oo;have q6:(q.length:Int)<(lp:Int):=Oo;go_wp2_with fail;go_meet;exact⟨by rw[<-p4],rfl⟩
     have q3:¬(k:Int)<(k:Int)+(m:Int):=Oo;have o4:nw=true:=by rw[m6.o];unfold Qo;rw[decide_eq_true (show m=0 by omega)];rfl
     subst o4;go_wp2_with fail;go_meet;exact⟨rfl,rfl⟩
    case rest=>
    obtain⟨rfl,B8⟩:=hcut;subst wc;clear r6;cases nw
    ·have g6:Hh (VA R q k (m+1)=VA R q k m):=ay (by unfold VA;rw[kP m6.o.symm]);go_wp2_with fail;go_roundg (nr-(k+(m+1)))
     case measure=>omega
     case rel=>exact⟨m+1,g,c,lk,Oo,Gg,rfl,Oo,rfl,ay ⟨b9.o,by rw[g6.o];exact f7.o,by rw[g6.o];exact b8.o⟩⟩
    have g6:Hh (VA R q k (m+1)=VA R q k m++[x]):=ay (by unfold VA;rw[Q8 m6.o.symm,mA,HX.o];rfl);go_upto_block 4 with fail;go_cut [17] from 59 to 135 (λu wx=>u=.bool (xK o I p x O)/\Hh (Bl W5 wx))
    case first=>
     go_wp2_with fail;go_loopw [17,103] (λv17 t wy=>∃j:Nat,j<=O/\t=ai j/\v17=.bool (xK o I p x j)/\Hh (Bl W5 wy)) (λ_ t _=>O-(intOf t).toNat);exact⟨0,nZ _,rfl,by rw[t2.o x],ay (bJ _ _)⟩;obtain⟨j,B9,rfl,rfl,HB⟩:=hrel;generalize wr=wy at *;by_cases a5:j<O
     ·have j1:(j:Int)<(O:Int):=Oo;obtain⟨b0,d0,b1,d1,e0,e1,e2,e3⟩:=HS.o j a5;have K:=bt b8.o.bel HB.o;replace e0:=upJ K e0;replace e1:=upJ K e1;have d4:=ay (n7.o x j);obtain⟨⟨e5,b7⟩,t8,l7⟩:=n9.o _ (i9.o j a5);obtain⟨r8,m7⟩:=o3.o _ (i9.o j a5);have m8:=ay λW (hW:Bl wy W)=>KH.o W b0 d0 j a5 (e2.below (bt K hW));generalize hsd:I.getD j qb=sd at *;generalize hal:xK o I p x j=al at *;obtain⟨hy,m9⟩:=Ex (qO o sd.vars n);rw[<-m9]at d4 m8;have y4:=ay m9;have C0:=ay hsd;clear m9 hsd hal;obtain⟨W6,h3⟩:=Ex (wy.alloc (.cells #[.slice b0 sd.vars.length d0,.slice b1 sd.rows.length d1] 123));have d6:Bl wy W6:=by rw[h3];exact(bJ _ _).alloc (nR _) _
      have f0:W6.cell? (az wy.1.size 0)=some (.slice b0 sd.vars.length d0):=by rw[h3];exact(qBv _ _ _).2.1
      have f1:W6.cell? (az wy.1.size 1)=some (.slice b1 sd.rows.length d1):=by rw[h3];exact(qBv _ _ _).2.2
      have a8:=ay (bt HB.o d6);have n1:=ay (m8.o W6 d6);go_upto_region 22 with fail;rw[<-h3];clear h3 e0 e1 m8;by_cases h4:j=F
      ·have q7:((j:Int) != (F:Int))=false:=Sy;have M:xK o I p x (j+1)=al:=by rw[d4.o,decide_eq_true h4];simp
       have a3:=ay M;clear M h4 n1;go_wp2_with fail;go_roundw
       case rel=>first|exact⟨j+1,Oo,Gg,by rw[a3.o],a8⟩|((repeat apply Exists.intro);exact⟨⟨j+1,Oo,Gg,by rw[a3.o],a8⟩,rfl⟩)
       case measure=>simp[intOf];omega
      have q7:((j:Int) != (F:Int))=true:=Sy;cases hy
      ·have M:xK o I p x (j+1)=al:=by rw[d4.o];simp
       have a3:=ay M;clear M h4;go_wp2_with (first|(go_at_call 62;refine n1.o.mono ?_;rintro e w7 ⟨rfl,y5⟩;subst w7)|fail);go_roundw
       case rel=>first|exact⟨j+1,Oo,Gg,by rw[a3.o],a8⟩|((repeat apply Exists.intro);exact⟨⟨j+1,Oo,Gg,by rw[a3.o],a8⟩,rfl⟩)
       case measure=>simp[intOf];omega
      have r9:=ay (e2.below (bt K d6));have s1:=ay (e3.below (bt K d6));have s2:=ay (HO.o.below (bt K d6));have s3:=ay (HP.o.below (bt K d6));obtain⟨pq,n2⟩:=Ex (prt (qO o sd.vars) p);rw[<-n2]at d4 r8 m7;have A5:pq.length<sd.vars.length:=m7 (by have:=y4.o;rw[HN.o.1]at this;exact this.symm);have A6:pq.length<=1000:=Oo;have n3:Hh (∀W,Bl W6 W->Cl 92 #[.agg #[.slice b0 sd.vars.length d0,.slice b1 sd.rows.length d1],.slice (some (az bo qo)) no co,.slice ap n n6] W λe w'=>∃g c,e=.returned (.slice (some (az g 0)) pq.length c)/\w'.ownsRow W.1.size 3 1 (.slice (some (az g 0)) pq.length c) pq.length (pq.map ai)/\Bl W w'):=ay λW hW=>by
       have:=Qr W b0 b1 sd.rows.length d0 d1 _ _ sd.vars o p (r9.o.below hW) (s2.o.below hW) (s3.o.below hW) (by have:=HN.o;omega) (by have:=HN.o;omega) l7;rw[<-HN.o.1,<-HN.o.2.1,<-n2]at this;exact this
      have s4:Hh (∀W vq,Bl W6 W->IS W vq (pq++[x])->Cl 93 #[.slice b1 sd.rows.length d1,vq] W λe w'=>e=.returned (.bool (y7 sd.rows (pq++[x])))/\∃d,w'=W.drewN d):=ay λW vq hW hI=>VL W _ _ sd.rows _ (s1.o.below hW) hI e5 Oo (λr hr=>by have:=b7 r hr;rw[lA,lS];omega);have M:xK o I p x (j+1)=(al&&y7 sd.rows (pq++[x])):=by rw[d4.o,decide_eq_false h4];simp
      have a3:=ay M;clear M h4 d4 r8 m7 n2 r9 s1 s2 s3 e5 b7 e2 e3;generalize y7 sd.rows (pq++[x])=bg at *;go_upto_region 23 with (first|(go_at_call 62;refine n1.o.mono ?_;rintro e w7 ⟨rfl,y5⟩;subst w7)|fail);cases al
      ·clear n3 s4;go_quiet (fail)
       go_wp2_with fail;go_roundw
       case rel=>first|exact⟨j+1,Oo,Gg,by rw[a3.o];rfl,ay (below_drewN a8.o _)⟩|((repeat apply Exists.intro);exact⟨⟨j+1,Oo,Gg,by rw[a3.o];rfl,ay (below_drewN a8.o _)⟩,rfl⟩)
       case measure=>simp[intOf];omega
      have d7:Hh (∀W,Bl W6 W->W.cell? (az wy.1.size 0)=some (.slice b0 sd.vars.length d0)/\W.cell? (az wy.1.size 1)=some (.slice b1 sd.rows.length d1)/\Bl W6 W):=ay λW hW=>⟨upJ hW f0,upJ hW f1,hW⟩
      first|go_region_held_law (λW=>W.cell? (az wy.1.size 0)=some (.slice b0 sd.vars.length d0)/\W.cell? (az wy.1.size 1)=some (.slice b1 sd.rows.length d1)/\Bl W6 W)
       (first
        |with_reducible exact d7.o _ (bJ _ _).drew
        |with_reducible exact d7.o _ (aK).drew
        |with_reducible exact d7.o _ n4
        |with_reducible exact d7.o _ j6
        |with_reducible exact d7.o _ c9
        |with_reducible exact d7.o _ (c9.alloc h5 _)
        |fail)
       (first
        |(refine QO _ Fl _ _ 24 rfl W6.1.size 3 i0 (ai 0) 1 8 Tryz.underlying24 hi k6 k7 k8 rfl Dd (.slice (some (az g7 0)) pq.length c7) pq.length _ rfl (h6.alloc _) (az w7.1.size 0) 1 1 [ai x] rfl rfl (qH _ _ _) (λu hu=>by simp at hu;subst hu;rfl) Dd Um Oo (by rw[World.size_alloc];omega) _ rfl ?_;intro g8 c8 w8 s5 n5 z3 z4;have j6:Bl W6 w8:=(c9.alloc h5 _).grown n5 (by rw[World.size_alloc];omega) (λq hq=>(h6.lt q hq).1))
        |(refine QO _ Fl _ _ 24 rfl W6.1.size 3 i0 (ai 0) 1 8 Tryz.underlying24 hi k6 k7 k8 rfl Dd (.slice (some (az g7 0)) pq.length c7) pq.length _ rfl h6 (az W6.1.size 0) 1 1 [ai x] rfl rfl s6 (λu hu=>by simp at hu;subst hu;rfl) Dd Um Oo h5 _ rfl ?_;intro g8 c8 w8 s5 n5 z3 z4;have j6:Bl W6 w8:=c9.grown n5 h5 (λq hq=>(h6.lt q hq).1))
        |(go_simp;go_at_call 92;(with_reducible refine(n3.o _ (bJ _ _).drew).mono ?_);rintro e w7 ⟨g7,c7,rfl,h7,d2⟩;have c9:Bl W6 w7:=(bJ _ _).drew.trans d2;have h6:=qF (B':=W6.1.size) h7 (nR _);have h5:=c9.size)
        |(go_simp;go_at_call 92;(with_reducible refine(n3.o _ (aK).drew).mono ?_);rintro e w7 ⟨g7,c7,rfl,h7,d2⟩;have c9:Bl W6 w7:=(aK).drew.trans (d2.mono Ss);have h6:=qF (B':=W6.1.size) h7 Ss;have h5:=c9.size;have s6:∀jj u,[ai x][jj]?=some u->w7.cell? (((az W6.1.size 0):Addr).add jj)=some u:=(λjj u hu=>qEA d2 (qH W6 (ai x) _ jj u hu)))
        |(go_simp;go_at_call 93;refine(s4.o _ _ j6 (qFU s5)).mono ?_;rintro e w9 ⟨rfl,dd,rfl⟩;have n4:=below_drewN j6 dd)
        |fail)|fail
      all_goals(go_wp2_with fail;go_roundw)
      all_goals first
       |exact⟨j+1,Oo,Gg,by rw[a3.o];rfl,ay (bt a8.o n4)⟩
       |((repeat apply Exists.intro);exact⟨⟨j+1,Oo,Gg,by rw[a3.o];rfl,ay (bt a8.o n4)⟩,rfl⟩)
       |(simp[intOf];omega)
     obtain rfl:j=O:=Oo;have j1:¬(j:Int)<(j:Int):=Oo;go_wp2_with fail;go_meet;exact⟨rfl,HB⟩
    case rest=>
    obtain⟨rfl,hcut⟩:=hcut;have k0:=ay (b8.o.below hcut.o);have A7:=k0.o.bel.size;clear hcut b8;generalize hal:xK o I p x O=al at *;have s7:=ay hal;clear hal;cases al
    ·have i3:Hh ((VA R q k (m+1)).filter (λy=>xK o I p y O)=(VA R q k m).filter λy=>xK o I p y O):=ay (by rw[g6.o,List.filter_append];simp[s7.o]);go_wp2_with fail;go_roundg (nr-(k+(m+1)))
     case measure=>omega
     case rel=>exact⟨m+1,g,c,lk,Oo,Gg,rfl,Oo,rfl,ay ⟨b9.o,by rw[i3.o];exact f7.o,by rw[i3.o];exact k0.o⟩⟩
    have i3:Hh ((VA R q k (m+1)).filter (λy=>xK o I p y O)=((VA R q k m).filter λy=>xK o I p y O)++[x]):=ay (by rw[g6.o,List.filter_append];simp[s7.o]);have A8:lk<=100000:=Oo;go_wp2_with (first
     |(at_builtin;refine wpList_append_lies _ rfl _ _ 24 rfl w.1.size 3 i0 (ai 0) 1 8 Tryz.underlying24 hi k6 k7 k8 rfl Dd (.slice (some (az g 0)) lk c) _ _ rfl (k0.o.own.alloc _) (az _ 0) 1 1 [ai x] rfl rfl (qH _ _ _) (λu hu=>by simp at hu;subst hu;rfl) Dd Um Oo (by rw[World.size_alloc];omega) _ rfl ?_;intro g9 z5 w9 i4 d3 k4 s8)
     |fail)
    have z6:=ay (k0.o.push d3 i4 k4);clear i4 d3 k4 s8;go_roundg (nr-(k+(m+1)))
    case measure=>omega
    case rel=>exact⟨m+1,g9,z5,lk+1,Oo,Gg,rfl,Oo,rfl,ay ⟨b9.o,by rw[i3.o,lA,<-f7.o];rfl,by rw[i3.o];exact z6.o⟩⟩
   have z7:qE ((R.getD (k+m) []).take q.length) q≠0:=λe=>hz (yD e);have a9:=ay (a4.o m e8.o (λ_=>hz));have j5:=ay (a7.o wo V.o.prt V.o.bel);generalize qE ((R.getD (k+m) []).take q.length) q=cv at *;have q2:(cv == 0)=false:=by simp;exact z7
   clear a4 a7 hz;go_wp2_with (first|(go_at_call 48;refine j5.o.mono ?_;rintro e w5 ⟨rfl,d5,rfl⟩)|fail);go_ret;have s9:=V.o.below (below_drewN (bJ _ _) d5);have h9:=s9.own;rw[a9.o]at h9;have h8:=f7.o;rw[a9.o]at h8;exact⟨g,c,by rw[<-h8];rfl,by rw[<-h8];exact h9,s9.bel⟩
  have q1:¬(((k+m:Nat):Int)<(nr:Int)):=Oo;have a9:=ay (a4.o m e8.o (λh=>absurd h x5));clear a4;go_wp2_with fail;go_ret;have h9:=V.o.own;rw[a9.o]at h9;have h8:=f7.o;rw[a9.o]at h8;exact⟨g,c,by rw[<-h8];rfl,by rw[<-h8];exact h9,V.o.bel⟩
theorem Kt{p:Int->Bool}(I:k<l.length):(l.take (k+1)).filter p=if p (l.getD k 0) then (l.take k).filter p++[l.getD k 0] else (l.take k).filter p:=by
 rw[tA,gE I,List.filter_append];have e:l.getD k 0=l[k]:=by rw[gD,gE I];rfl
 rw[e];simp only[Option.toList_some];by_cases h:p l[k]=true;rw[if_pos h,List.filter_cons_of_pos h];rfl;rw[if_neg h,List.filter_cons_of_neg h];simp
theorem Q9(w:World)(v v2:Value)(l U:LI)(h:IS w v l)(hl:l.length<=1099511627776)(h2:IS w v2 U)(a8:U.length<=1099511627776):
 Cl 44 #[v,v2] w λe w'=>∃g cap,e=.returned (.slice (some (az g 0)) (shr l U).length cap)/\w'.ownsRow w.1.size 3 1 (.slice (some (az g 0)) (shr l U).length cap) (shr l U).length ((shr l U).map ai)/\Bl w w':=by
 obtain⟨i0,hi,a9,b1,b7⟩:=info_parts Tryz.infoInt;obtain⟨a,cap,rfl,hc⟩:=h;have H2:=ay h2;obtain⟨a2,c7,rfl,-⟩:=h2;obtain⟨I,V⟩:=Ex (λk=>(l.take k).filter λx=>decide (x∈U):Nat->LI);have HS:Hh (∀k,k<l.length->I (k+1)=if decide (l.getD k 0∈U) then I k++[l.getD k 0] else I k):=ay λk hk=>by rw[V];exact Kt hk
 have H0:Hh (I 0=[]):=ay (by rw[V];rfl);have HE:Hh (I l.length=shr l U):=ay (by rw[V];simp[shr]);have c8:Hh (∀k,(I k).length<=k):=ay λk=>by
  rw[V];exact bM (List.length_filter_le _ _) Sy
 rw[<-HE.o];obtain⟨n,hn⟩:=Ex l.length;rw[<-hn]at hc hl HS ⊢;have HC:=ay hc;clear hc hn V HE;go_enter Tryz.func44,Tryz.ntmps44;go_wp2;have b0:Bl w (w.alloc (.cells #[] 3)):=(bJ _ _).alloc (nR _) _;have a5:=ay b0;clear b0;go_loopw [5,11] (λv t wr=>∃k g cp lk:Nat,k<=n/\t=ai k/\v=.slice (some (az g 0)) lk cp/\lk<=k/\Hh (lk=(I k).length/\wr.ownsRow w.1.size 3 1 (.slice (some (az g 0)) lk cp) lk ((I k).map ai)/\Bl w wr)) (λ_ t _=>n-(intOf t).toNat);exact⟨0,w.1.size,0,0,nZ _,rfl,rfl,nR _,ay (by rw[H0.o];exact⟨rfl,oM w #[] 0 (nR _) Dd rfl,a5.o⟩)⟩;clear a5;obtain⟨k,g,cp,lk,hk,rfl,rfl,c9,O⟩:=hrel;have b8:=O.o.2.2.size;by_cases a4:k<n
 ·have i1:(k:Int)<(n:Int):=Oo;rcases HC.o with h0|⟨b,o,rfl,K⟩;omega;have c1:wr.cell? (az b (o+k))=some (ai (l.getD k 0)):=(O.o.2.2.cell (bL w _ (K k a4))).trans (K k a4);have HK:=ay (zm wr _ U (l.getD k 0) (H2.o.below O.o.2.2) a8);have e1:=HS.o k a4;clear K;generalize decide (l.getD k 0∈U)=y at *;generalize l.getD k 0=x at *;cases y
  ·rw[if_neg Dd]at e1;have HF:Hh (lk=(I (k+1)).length/\wr.ownsRow w.1.size 3 1 (.slice (some (az g 0)) lk cp) lk ((I (k+1)).map ai)/\Bl w wr):=ay (by rw[e1];exact O.o);clear e1 O;go_wp2_with fail;refine HK.o.mono ?_;rintro e w1 ⟨rfl,b9⟩;subst w1;go_wp2_with fail;go_roundw;exact⟨k+1,g,cp,lk,Oo,Gg,rfl,Oo,HF⟩;exact Im
  rw[if_pos rfl]at e1;have E1:=ay e1;clear e1;go_wp2_with fail;refine HK.o.mono ?_;rintro e w1 ⟨rfl,b9⟩;subst w1;go_wp2_with (first
   |(at_builtin;refine wpList_append_lies _ rfl _ _ 24 rfl w.1.size 3 i0 (ai 0) 1 8 Tryz.underlying24 hi a9 b1 b7 rfl Dd (.slice (some (az g 0)) lk cp) _ _ rfl (O.o.2.1.alloc _) (az _ 0) 1 1 [ai x] rfl rfl (qH _ _ _) (λu hu=>by simp at hu;subst hu;rfl) Dd Um Oo Sy _ rfl ?_;intro g3 cp3 w3 a3 M a6 a7)|fail)
  have HF:Hh (lk+1=(I (k+1)).length/\w3.ownsRow w.1.size 3 1 (.slice (some (az g3 0)) (lk+1) cp3) (lk+1) ((I (k+1)).map ai)/\Bl w w3):=ay (by
   rw[E1.o,lA,lS,mA];exact⟨by rw[O.o.1],a3,(O.o.2.2.alloc b8 _).grown M Sy (λq hq=>(O.o.2.1.lt q hq).1)⟩)
  clear a3 M a6 a7 O;go_roundw;exact⟨k+1,g3,cp3,lk+1,Oo,Gg,rfl,Oo,HF⟩;exact Im
 obtain rfl:k=n:=Oo;have i1:¬((k:Int)<(k:Int)):=Oo;obtain⟨h1,h3,h4⟩:=O.o;have HF:Hh (wr.ownsRow w.1.size 3 1 (.slice (some (az g 0)) (I k).length cp) (I k).length ((I k).map ai)/\Bl w wr):=ay (by rw[<-h1];exact⟨h3,h4⟩);have H1:=ay h1;clear h1 h3 h4 O;go_wp2_with fail;go_ret;exact⟨g,cp,by rw[H1.o];rfl,HF.o.1,HF.o.2⟩
def sdT(o:LI)(t:TbV):SdM:=⟨shr o t.vs,srt (t.rows.map (qI t.vs (shr o t.vs)))⟩
theorem vO(o:LI)(t:TbV):(sdT o t).Ok:=by
 refine⟨(zu _ _ (nR _)).1,λr I=>?_⟩;obtain⟨q,-,rfl⟩:=List.mem_map.1 (((zu _ (t.rows.map (qI t.vs (shr o t.vs))) (nR _)).2 r).1 I);exact yT _ _ _
structure TvJ(t:TbV):Prop where
 vs:t.vs.length<=6
 n:t.rows.length<=10000
 len:∀r∈t.rows,r.length=t.vs.length
structure SdR where
 v0:Value
 v1:Value
 s:SdM
def scs(r:SdR):List Value:=[r.v0,r.v1]
def El(v:Value)(W:World)(r:SdR):Prop:=∀W',(∀k,k<W.1.size->v.ownBlock≠some k->W'.1[k]?=W.1[k]?)->IS W' r.v0 r.s.vars/\ISSc W' r.v1 r.s.rows
def ElS(B:Nat)(W:World)(r:SdR):Prop:=∀W',(∀k,B<=k->k<W.1.size->W'.1[k]?=W.1[k]?)->IS W' r.v0 r.s.vars/\ISSc W' r.v1 r.s.rows
structure SDs(W:World)(B:Nat)(v:Value)(sl:List SdR):Prop where
 own:W.ownsRow B 123 2 v sl.length (sl.flatMap scs)
 el:∀r∈sl,El v W r
theorem SDs.push{wr:World}{sl:List SdR}{r:SdR}{o:Obj}(h:SDs wr B v sl)(hb:Bl wr W)(he:ElS wr.1.size W r)(hg:(W.alloc o).grownBy w3 v.ownBlock)(M:w3.ownsRow B 123 2 (.slice (some (az g 0)) (sl.length+1) c) (sl.length+1) (sl.flatMap scs++[r.v0,r.v1]))(I:v.ownBlock=some g∨g=(W.alloc o).1.size):
 SDs w3 B (.slice (some (az g 0)) (sl.length+1) c) (sl++[r]):=by
 have hs:=hb.size;have a3:=hg.size;rw[World.size_alloc]at a3 I;refine⟨by rw[lA,lS,List.flatMap_append];simpa[scs]using M,λq hq W' a4=>?_⟩;have key:∀k,k<W.1.size->v.ownBlock≠some k->g≠k->W'.1[k]?=W.1[k]?:=λk O U K=>by
  rw[a4 k Oo (λe=>K (by simpa[Value.ownBlock]using e)),hg.block k (by rw[World.size_alloc];omega) (λe=>U e.symm)];exact Below.heap_alloc _ _ _ O
 have V:∀k,v.ownBlock=some k->k<wr.1.size:=λk O=>(h.own.lt k O).2;rcases List.mem_append.1 hq with hq|hq
 ·refine h.el q hq W' λk O U=>?_;rw[key k Oo U (λe=>?_)];exact hb.block k O;subst e;rcases I with K|K;exact U K;omega
 rw[List.mem_singleton]at hq;subst hq;refine he W' λk U K=>key k K (λe=>?_) (λe=>?_);have:=V k e;omega;subst e;rcases I with h3|h3;have:=V _ h3;omega;omega
theorem SDs.below{sl:List SdR}(h:SDs W B v sl)(hb:Bl W W'):SDs W' B v sl:=by
 refine⟨qB h.own hb,λr K X M=>h.el r K X λk I O=>?_⟩;rw[M k (bN I hb.size) O];exact hb.block k I
theorem qG5{α:Type}(c:α->List Value)(I:∀x,(c x).length=2)(K:List α):∀t,(K.flatMap c)[t]?=(K[t / 2]?).bind λx=>(c x)[t % 2]?:=by
 induction K with
 |nil=>intro t;simp
 |cons x r ih=>
  intro t;rw[List.flatMap_cons];by_cases h:t<2;rw[aL (by rw[I];omega),Nat.div_eq_of_lt h,Nat.mod_eq_of_lt h];rfl;obtain⟨s,rfl⟩:∃s,t=s+2:=⟨t-2,Oo⟩;rw[bQ (by rw[I];omega)];have e:s+2-(c x).length=s:=by rw[I];omega
  rw[e,ih s,Nat.add_mod_right,Nat.add_div_right _ Dd];rfl
theorem SDs.isds{sl:List SdR}(h:SDs W B v sl):ISds W v (sl.map SdR.s):=by
 have K:∀r∈sl,IS W r.v0 r.s.vars/\ISSc W r.v1 r.s.rows:=λr hr=>h.el r hr W λ_ _ _=>rfl;rcases h.own.2 with ⟨rfl,M⟩|⟨g,cap,cur,rfl,a3,hh,M,-,-,ht⟩;exact⟨none,0,by rw[lM,M],Or.inl (by rw[lM];exact M)⟩;refine⟨_,cap,by rw[lM],Or.inr ⟨g,0,rfl,λj I=>?_⟩⟩;rw[lM]at I;obtain⟨h1,h2⟩:=K sl[j] (gM I);have eg:(sl.map SdR.s).getD j qb=sl[j].s:=by rw[gD,bK,gE I];rfl
 have V:∀q,q<2->W.cell? (az g (j*2+q))=(scs sl[j])[q]?:=λq hq=>by
  rw[cell_of_row _ _ _ _ _ _ hh,<-Array.getElem?_toList,<-List.getElem?_take_of_lt (by omega:j*2+q<sl.length*2),ht,qG5 scs (λ_=>rfl),show(j*2+q) / 2=j by omega,show(j*2+q) % 2=q by omega,gE I];rfl
 rw[eg,Nat.zero_add];obtain⟨a0,c0,e0,O⟩:=h1;obtain⟨a1,c1,e1,U⟩:=h2;refine⟨a0,c0,a1,c1,?_,?_,⟨a0,c0,rfl,O⟩,⟨a1,c1,rfl,U⟩⟩;rw[<-e0];exact V 0 Oo;rw[<-e1];exact V 1 Oo
theorem Qx(h:qV l=true)(hi:i<l.length):xD l i=true:=by
 unfold qV at h;rw[aT]at h;exact h i (by simpa using hi)
theorem QA{l:LI}(h:qV l=true):∀i,i<l.length->(i:Int)<=l.getD i 0/\l.getD i 0<6
 |0,hi=>by
  have:=Qx h hi;unfold xD at this;simp only[Bool.and_eq_true,decide_eq_true_eq]at this;omega
 |i+1,hi=>by
  have:=Qx h hi;have I:=QA h i Oo;unfold xD at this;simp only[Bool.and_eq_true,Bool.or_eq_true,decide_eq_true_eq,Nat.add_sub_cancel]at this;omega
theorem zK(h:qV l=true):l.length<=6:=by
 rcases Nat.lt_or_ge 6 l.length with I|I;have:=QA h 6 I;omega;exact I
theorem xJ(h:qV l=true):l.Pairwise (·< ·):=by
 have step:∀j,j<l.length->∀i,i<j->l.getD i 0<l.getD j 0:=by
  intro j;induction j with
  |zero=>intro _ i hi;omega
  |succ j ih=>
   intro I i hi;have:=Qx h I;unfold xD at this;simp only[Bool.and_eq_true,Bool.or_eq_true,decide_eq_true_eq,Nat.add_sub_cancel]at this;by_cases e:i=j;subst e;omega;have:=ih Oo i Oo;omega
 rw[List.pairwise_iff_getElem];intro i j hi I K;have:=step j I i K;rw[gD,gE hi,gD,gE I]at this;exact this
theorem qZ{vs:LI}{rows:LL}(h:ql vs rows ws=true):qV vs=true/\rows.length<=10000/\∀r∈rows,r.length=vs.length:=by
 unfold ql at h;simp only[Bool.and_eq_true,decide_eq_true_eq]at h;refine⟨h.1.1.1,h.1.1.2,λr M=>?_⟩;obtain⟨i,hi,e⟩:=gO M;have I:=h.1.2;unfold xt at I;rw[aT]at I;have K:=I i (by simpa using hi);unfold rowAt at K;simp only[Bool.and_eq_true,decide_eq_true_eq]at K;rw[gD,gE hi,Option.getD_some,e]at K;omega
def Qy(vs:LI)(rows:LL)(ws vars:LI):Bool:=ql vs rows ws&&qV vars&&Qz vars vs
structure TQ(W:World)(B:Nat)(v0 v1 v2:Value)(us:List Value)(vs:LI)(rows:LL)(ws:LI):Prop where
 o0:W.ownsRow B 3 1 v0 vs.length (vs.map ai)
 rq:RQ W B v1 us rows
 o2:W.ownsRow B 3 1 v2 ws.length (ws.map ai)
 a02:Ap' v0 v2
 a0:∀i,i<rows.length->Ap' (us.getD i undef) v0
 a2:∀i,i<rows.length->Ap' (us.getD i undef) v2
theorem TQ.nil(W:World)(B:Nat):TQ W B sn sn sn [] [] [] []:=
 ⟨oN _ _ _ _,⟨oN _ _ _ _,rfl,λi hi=>by simp at hi,λi j _ I=>by simp at I⟩,oN _ _ _ _,λg h=>by simp[Value.ownBlock]at h,λi hi=>by simp at hi,λi hi=>by simp at hi⟩
theorem TQ.set{off:Nat}{v0 v1 y:Value}{vs:LI}{rows:LL}(h:TQ W B v0 v1 v2 us vs rows ws)(I:∃cur,W.1[p]?=some (.cells cur 61 (0,0))):TQ (W.setCell (az p off) y) B v0 v1 v2 us vs rows ws:=
 ⟨qL h.o0 I Dd,h.rq.set I,qL h.o2 I Dd,h.a02,h.a0,h.a2⟩
theorem TQ.below{v0 v1:Value}{vs:LI}{rows:LL}(h:TQ W B v0 v1 v2 us vs rows ws)(hb:Bl W W'):TQ W' B v0 v1 v2 us vs rows ws:=
 ⟨qB h.o0 hb,h.rq.below hb,qB h.o2 hb,h.a02,h.a0,h.a2⟩
def zF(n:Nat):LI:=List.replicate n 1
theorem vB(n:Nat):(zF n).map ai=List.replicate n (ai 1):=by simp[zF]
theorem xg(n:Nat):(zF n).length=n:=by simp[zF]
theorem Y9(w:World)(v0 v1 v2 vv:Value)(vs:LI)(rows:LL)(ws vars:LI)(h:IT w v0 v1 v2 vs rows ws)(hv:IS w vv vars)(f9:vars.length<=1099511627776)(g6:vs.length<=1099511627776)(hS:qT rows):
 Cl 76 #[.agg #[v0,v1,v2],vv] w λe w'=>∃x0 x1 x2 us,e=.returned (.agg #[x0,x1,x2])/\(if Qy vs rows ws vars=true then TQ w' w.1.size x0 x1 x2 us vars (srt (rows.map (qI vs vars))) (zF (srt (rows.map (qI vs vars))).length) else TQ w' w.1.size x0 x1 x2 us [] [] [])/\Bl w w':=by
 obtain⟨W1,O⟩:=Ex ((w.alloc (.cells #[v0,v1,v2] 61)).alloc (.cells #[sn,sn,sn] 61));have d5:Bl w W1:=by rw[O];exact(aK).alloc Ss _
 have V:Hh (TX W1 w.1.size v0 v1 v2):=ay (by rw[O];exact(TX.made _ _ _ _).below (aK));have a8:Hh (TX W1 (w.1.size+1) sn sn sn):=ay (by
  rw[O];have:=TX.made (w.alloc (.cells #[v0,v1,v2] 61)) sn sn sn;rw[World.size_alloc]at this;exact this)
 have HI:Hh (∀W,Bl W1 W->IT W v0 v1 v2 vs rows ws/\IS W vv vars):=ay λW hW=>⟨h.below (bt d5 hW),hv.below (bt d5 hW)⟩;have KT:=ay (yo W1 v0 v1 v2 vs rows ws (HI.o W1 (bJ _ _)).1 g6 hS);have KV:Hh (∀W,Bl W1 W->Cl 97 #[vv] W λe w'=>e=.returned (.bool (qV vars))/\w'=W):=ay λW hW=>zd W vv vars (HI.o W hW).2 f9;have KP:Hh (∀W,Bl W1 W->Cl 75 #[vv,v0] W λe w'=>∃v,e=.returned v/\w'.ownsRow W.1.size 3 1 v (plc (λi=>decide (vars.getD i 0∈vs)) vars.length).length ((plc (λi=>decide (vars.getD i 0∈vs)) vars.length).map ai)/\Bl W w'):=ay λW hW=>xI W vv v0 vars vs (HI.o W hW).2 (HI.o W hW).1.vs f9 g6;have a9:=J4 vars vs;have b1:=ay d5;obtain⟨a0,c0,e0,-⟩:=h.vs;obtain⟨a1,c1,e1,-⟩:=h.rows;obtain⟨a2,c2,e2,-⟩:=h.ws;obtain⟨av,cv,e3,-⟩:=hv;have d0:=V.o.c0;have d1:=V.o.c1;have d2:=V.o.c2;subst e0 e1 e2 e3;have HG:Hh (Qy vs rows ws vars=true->(vars.length<=6/\vs.length<=6/\rows.length<=10000/\(∀r∈rows,r.length=vs.length)/\zq rows (plc (λi=>decide (vs.getD i 0∈vars)) vs.length)=rows.map (qI vs vars))):=ay λhb=>by
  unfold Qy at hb;simp only[Bool.and_eq_true]at hb;obtain⟨⟨h1,h2⟩,h3⟩:=hb;obtain⟨h4,h5,h6⟩:=qZ h1;refine⟨zK h2,zK h4,h5,h6,Vq (xJ h4) (xJ h2) λx hx=>?_⟩;unfold Qz at h3;rw[aT]at h3;simpa using h3 x hx
 have b8:Hh (Qy vs rows ws vars=true->∀W,Bl W1 W->Cl 80 #[.agg #[.slice a0 vs.length c0,.slice a1 rows.length c1,.slice a2 ws.length c2],.slice av vars.length cv] W λe w'=>∃v uo,e=.returned v/\RQ w' W.1.size v uo (srt (rows.map (qI vs vars)))/\Bl W w'):=ay λhb W hW=>by
  obtain⟨g1,g2,g3,g4,g5⟩:=HG.o hb;have:=vd W _ _ _ _ vs rows ws vars (HI.o W hW).1 (HI.o W hW).2 Oo Oo Oo g4;rw[g5]at this;exact this
 have b9:Hh (Qy vs rows ws vars=true->∀W vr,Bl W1 W->(∃a c,vr=.slice a (srt (rows.map (qI vs vars))).length c)->Cl 78 #[.slice av vars.length cv,vr] W λe w'=>∃v0 v2,e=.returned (.agg #[v0,vr,v2])/\w'.ownsRow W.1.size 3 1 v0 vars.length (vars.map ai)/\w'.ownsRow W.1.size 3 1 v2 (srt (rows.map (qI vs vars))).length (List.replicate (srt (rows.map (qI vs vars))).length (ai 1))/\Ap' v0 v2/\Bl W w'):=ay λhb W vr hW h7=>by
  obtain⟨g1,g2,g3,g4,g5⟩:=HG.o hb;exact yz W _ vr vars _ (HI.o W hW).2 h7 Oo (bM (xT _ _ (nR _)) (by rw[lM];omega))
 clear h d5 f9 g6 hS;unfold Qy at *;cases ht:ql vs rows ws
 ·rw[ht]at KT;clear KV KP b8 b9 HG a9 ht;generalize vs.length=l0 at *;generalize rows.length=l1 at *;generalize ws.length=l2 at *;generalize vars.length=l3 at *;go_enter Tryz.func76,Tryz.ntmps76;go_upto_region 1 with fail;rw[<-O];clear O;go_wp2_with fail;refine KT.o.mono ?_;rintro e w2 ⟨rfl,I⟩;have K:=ay (a8.o.below I);have a5:=ay (V.o.below I);have M:=ay I;have a6:=ay (bt b1.o I);clear I KT a8 d0 d1 d2 b1;have f0:=K.o.free 0;have f1:=K.o.free 1;have f2:=K.o.free 2;have r0:=K.o.c0;have r1:=K.o.c1;have r2:=K.o.c2;go_wp2_with fail;refine bodyPost_ret (v:=.agg #[sn,sn,sn]) (by simp[results,Tryz.results76,go_sem,r0,r1,r2]) rfl ⟨_,_,_,rfl,⟨[],TQ.nil _ _⟩,((a6.o.setCell (Nat.le_succ _) _).setCell (Nat.le_succ _) _).setCell (Nat.le_succ _) _⟩
 cases hs:qV vars
 ·rw[ht]at KT;rw[hs]at KV;clear KP b8 b9 HG a9 ht hs;generalize vs.length=l0 at *;generalize rows.length=l1 at *;generalize ws.length=l2 at *;generalize vars.length=l3 at *;go_enter Tryz.func76,Tryz.ntmps76;go_upto_region 1 with fail;rw[<-O];clear O;go_wp2_with fail;refine KT.o.mono ?_;rintro e w2 ⟨rfl,I⟩;have K:=ay (a8.o.below I);have a5:=ay (V.o.below I);have M:=ay I;have a6:=ay (bt b1.o I);clear I KT a8 d0 d1 d2 b1;go_wp2_with fail;refine(KV.o w2 M.o).mono ?_;rintro e w3 ⟨rfl,g8⟩;subst w3;have f0:=K.o.free 0;have f1:=K.o.free 1;have f2:=K.o.free 2;have r0:=K.o.c0;have r1:=K.o.c1;have r2:=K.o.c2;go_wp2_with fail;refine bodyPost_ret (v:=.agg #[sn,sn,sn]) (by simp[results,Tryz.results76,go_sem,r0,r1,r2]) rfl ⟨_,_,_,rfl,⟨[],TQ.nil _ _⟩,((a6.o.setCell (Nat.le_succ _) _).setCell (Nat.le_succ _) _).setCell (Nat.le_succ _) _⟩
 cases hq:Qz vars vs
 ·rw[ht]at KT;rw[hs]at KV;rw[hq]at a9;have i1:((plc (λi=>decide (vars.getD i 0∈vs)) vars.length).length:Int)<(vars.length:Int):=by have:=of_decide_eq_true (a9.trans rfl);omega
  clear b8 b9 HG a9 ht hs hq;generalize (plc (λi=>decide (vars.getD i 0∈vs)) vars.length).length=lp at *;generalize vs.length=l0 at *;generalize rows.length=l1 at *;generalize ws.length=l2 at *;generalize vars.length=l3 at *;go_enter Tryz.func76,Tryz.ntmps76;go_upto_region 1 with fail;rw[<-O];clear O;go_wp2_with fail;refine KT.o.mono ?_;rintro e w2 ⟨rfl,I⟩;have K:=ay (a8.o.below I);have a5:=ay (V.o.below I);have M:=ay I;have a6:=ay (bt b1.o I);have d0:=a5.o.c0;clear I KT a8 d1 d2 b1 V;go_wp2_with fail;refine(KV.o w2 M.o).mono ?_;rintro e w3 ⟨rfl,g8⟩;subst w3;go_wp2_with fail;refine(KP.o w2 M.o).mono ?_;rintro e w3 ⟨v3,rfl,c7,U⟩;obtain⟨a3,c3,e3⟩:=qg c7;subst e3;have a7:=ay (K.o.below U);have c8:=ay (a5.o.below U);have d6:=ay (bt M.o U);have c9:=ay (bt a6.o U);clear c7 U K a5 M a6 KV KP d0;have f0:=a7.o.free 0;have f1:=a7.o.free 1;have f2:=a7.o.free 2;have r0:=a7.o.c0;have r1:=a7.o.c1;have r2:=a7.o.c2;go_wp2_with fail;refine bodyPost_ret (v:=.agg #[sn,sn,sn]) (by simp[results,Tryz.results76,go_sem,r0,r1,r2]) rfl ⟨_,_,_,rfl,⟨[],TQ.nil _ _⟩,((c9.o.setCell (Nat.le_succ _) _).setCell (Nat.le_succ _) _).setCell (Nat.le_succ _) _⟩
 have d3:=ay (b8.o (by rw[ht,hs,hq];rfl));have d4:=ay (b9.o (by rw[ht,hs,hq];rfl));rw[ht]at KT;rw[hs]at KV;rw[hq]at a9;have i1:¬(((plc (λi=>decide (vars.getD i 0∈vs)) vars.length).length:Int)<(vars.length:Int)):=by have:=of_decide_eq_false (a9.trans rfl);omega
 clear b8 b9 HG a9 ht hs hq;generalize (plc (λi=>decide (vars.getD i 0∈vs)) vars.length).length=lp at *;obtain⟨R,hR⟩:=Ex (srt (rows.map (qI vs vars)));have h8:=ay hR;rw[<-hR]at d3 d4;clear hR;generalize vs.length=l0 at *;generalize rows.length=l1 at *;generalize ws.length=l2 at *;generalize hl3:vars.length=l3 at *;have h9:=ay hl3;clear hl3;go_enter Tryz.func76,Tryz.ntmps76;go_upto_region 1 with fail;rw[<-O];clear O;go_wp2_with fail;refine KT.o.mono ?_;rintro e w2 ⟨rfl,I⟩;have K:=ay (a8.o.below I);have a5:=ay (V.o.below I);have M:=ay I;have a6:=ay (bt b1.o I);have d0:=a5.o.c0;clear I KT a8 d1 d2 b1 V;go_wp2_with fail;refine(KV.o w2 M.o).mono ?_;rintro e w3 ⟨rfl,g8⟩;subst w3;go_wp2_with fail;refine(KP.o w2 M.o).mono ?_;rintro e w3 ⟨v3,rfl,c7,U⟩;obtain⟨a3,c3,e3⟩:=qg c7;subst e3;have a7:=ay (K.o.below U);have c8:=ay (a5.o.below U);have d6:=ay (bt M.o U);have c9:=ay (bt a6.o U);clear c7 U K a5 M a6 KV KP d0;have d0:=c8.o.c0;have d1:=c8.o.c1;have d2:=c8.o.c2;go_wp2_with fail;refine(d3.o w3 d6.o).mono ?_;rintro e w4 ⟨v4,us,rfl,d7,d8⟩;have g9:=ay (a7.o.below d8);have i0:=ay (bt d6.o d8);have d9:=ay (bt c9.o d8);have e7:=ay (d7.base c9.o.size);have f8:=ay (d4.o w4 v4 i0.o d7.sl);obtain⟨a4,c4,e4⟩:=d7.sl;subst e4;clear d7 d8 d3 d4 d0 d1 d2 c8 a7 d6 c9;go_wp2_with fail;refine f8.o.mono ?_;rintro e w5 ⟨x0,x2,rfl,e8,e9,h0,f7⟩;have b7:=ay (g9.o.below f7);have i2:=ay (bt d9.o f7);have i3:Hh (TQ w5 w.1.size x0 (.slice a4 R.length c4) x2 us vars R (zF R.length)):=ay ⟨qF (by rw[h9.o];exact e8) d9.o.size,e7.o.below f7,qF (by rw[xg,vB];exact e9) d9.o.size,h0,λi hi g h1 h2=>by
  have e1:=((e7.o.each i hi).lt g h1).2;have e2:=(e8.lt g h2).1;omega,λi hi g h1 h2=>by
  have e1:=((e7.o.each i hi).lt g h1).2;have e2:=(e9.lt g h2).1;omega⟩
 obtain⟨b0,k0,e5⟩:=qg e8;obtain⟨b2,k2,e6⟩:=qg e9;subst e5 e6;clear e8 e9 h0 f7 f8 g9 d9 e7;have f0:=b7.o.free 0;have f1:=b7.o.free 1;have f2:=b7.o.free 2;have r0:=b7.o.c0;have r1:=b7.o.c1;have r2:=b7.o.c2;have g7:=ay b7.o.typ;go_wp2_with fail;refine bodyPost_ret (v:=.agg #[.slice b0 l3 k0,.slice a4 R.length c4,.slice b2 R.length k2]) (by simp[results,Tryz.results76,go_sem,r0,r1,r2]) rfl ⟨_,_,_,rfl,⟨us,?_⟩,((i2.o.setCell (Nat.le_succ _) _).setCell (Nat.le_succ _) _).setCell (Nat.le_succ _) _⟩;rw[<-h8.o];exact((i3.o.set g7.o).set (qX g7.o)).set (qX (qX g7.o))
theorem TX.set2{v0 v1:Value}(h:TX W p v0 v1 v2)(y:Value):TX (W.setCell (az p 2) y) p v0 v1 y:=⟨by rw[bI _ _ _ _ _ _ h.blk];rfl⟩
theorem TX.grown{s n:Nat}{v0 v1 u:Value}{e:TypeId}{xs:List Value}{o:Obj}(h:TX W p v0 v1 v2)(I:W.ownsRow B e s u n xs)(K:e≠61)(M:(W.alloc o).grownBy w3 u.ownBlock):TX w3 p v0 v1 v2:=⟨(zR M h.lt (own_ne I h.typ K)).trans h.blk⟩
end Go.Proofs.YtcnfapnfmnolbaaGreat
