import Derived.Test.YtfpjpngjikdaoaaGreatAg05
import Derived.Test.YtfpjpngjikdaoaaGreatAg03
set_option maxHeartbeats 40000000
set_option maxRecDepth 1000000
set_option linter.defProp false
open List Go.World
open List renaming length->E,getD->U
open Array renaming size->J
open Go.World renaming alloc->S,cell?->eQ,ownsRow->oW,setCell->sW
open Go.Value renaming slice->Z,bool->oB,agg->aQ,ownBlock->wN
open Go.Obj renaming cells->eZ
open Go.Ending renaming returned->rE
open Option renaming some->Q
open Decidable renaming decide->oD
open Go renaming World->oX,Value->oV,below_drewN->rB,step_append_lies->sX
open Bool renaming false->nF
open Go.Proofs.Tryz renaming underlying24->tU
namespace Go.Proofs.YtfpjpngjikdaoaaGreat
open Go.Proofs.Tryz Go.RowKit
section
variable {x:Int}{L o:LI}{R:LL}{B b c g g3 lk i m j:Nat}{PB:Obj}{v vo vp:oV}{W W' X Y w w3 wr:oX}
def qV(o vars:LI)(i:Nat):Bool:=oD (U o i 0∈vars)
def qGG{H}(p:LI)(hi:i<E p):prt H (p.take (i+1))=prt H (p.take i)++(if H i then [U p i 0] else []):=by
 have e:=qy hi;rw[e,kO,bZ,Nat.min_eq_left Oo]
def Zt w(a0 a1:OA)n1 c0 c1 vars o p(hv:IS w (Z a0 (E vars) c0) vars)(ho:IS w vo o)(hp:IS w vp p)(hl:E p<=E o)(hb:E o<=1000)(e2:E vars<=1000):
 Cl 104 #[aQ #[Z a0 (E vars) c0,Z a1 n1 c1],vo,vp] w λe w'=>∃g c,e=rE (Z (Q (az g 0)) (E (prt (qV o vars) p)) c)/\oW w' (J w.1) 3 1 (Z (Q (az g 0)) (E (prt (qV o vars) p)) c) (E (prt (qV o vars) p)) ((prt (qV o vars) p).map ai)/\Bl w w':=by
 obtain⟨ap,e3,rfl,b9⟩:=hp;obtain⟨ao,co,rfl,c7⟩:=ho;obtain⟨n,hn⟩:=Ex (E p);obtain⟨no,a8⟩:=Ex (E o);have HN:=ay hn;obtain⟨I,a4⟩:=Ex (S w (eZ #[Z a0 (E vars) c0,Z a1 n1 c1] 161));have a5:Bl w I:=by rw[a4];exact(bJ _ _).alloc (nR _) _
 have hs1:I.1.size=J w.1+1:=by rw[a4];simp
 have c8:eQ I (az (J w.1) 0)=Q (Z a0 (E vars) c0):=by rw[a4,bE _ _ _ _ rfl];rfl
 have HV:=ay (hv.zz a5);have d7:=ay a5;have d8:Hh (n=0\/∃b q,ap=Q (az b q)/\∀j,j<n->eQ I (az b (q+j))=Q (ai (U p j 0))):=ay (by
  rw[hn];rcases b9 with h0|⟨b,q,rfl,h⟩;exact Or.inl h0;exact Or.inr ⟨b,q,rfl,λj hj=>(a5.cell (bL w _ (h j hj))).trans (h j hj)⟩)
 have d9:Hh (no=0\/∃b q,ao=Q (az b q)/\∀j,j<no->eQ I (az b (q+j))=Q (ai (U o j 0))):=ay (by
  rw[a8];rcases c7 with h0|⟨b,q,rfl,h⟩;exact Or.inl h0;exact Or.inr ⟨b,q,rfl,λj hj=>(a5.cell (bL w _ (h j hj))).trans (h j hj)⟩)
 obtain⟨K,a7⟩:=Ex (λk=>prt (qV o vars) (p.take k):Nat->LI);have H0:Hh (K 0=[]):=ay (by rw[a7];rfl);have HS:Hh (∀k,k<n->K (k+1)=K k++(if qV o vars k then [U p k 0] else [])):=ay (λk hk=>by rw[a7];exact qGG p Oo);have HE:Hh (K n=prt (qV o vars) p):=ay (by rw[a7,hn];show prt _ (p.take (E p))=_;rw[tL]);rw[<-HE.o];rw[<-hn,<-a8];have e4:n<=no:=Oo;have e0:no<=1000:=Oo;have c9:=ay hs1;clear a7 hv b9 c7 a5 hl hb hn a8 hs1;go_enter func104,ntmps104;go_upto_region 1 with fail;rw[<-a4];clear a4;have b0:Bl I (I.alloc (eZ #[] 3)):=(bJ _ _).alloc (nR _) _;have d0:=ay b0;clear b0;go_upto_block 0 with fail;go_wp2;go_loopw [7,13] (λv t wr=>∃k g cp lk:Nat,k<=n/\t=ai k/\v=sZ g 0 lk cp/\lk<=k/\Hh (lk=E (K k)/\oW wr I.1.size 3 1 (sZ g 0 lk cp) lk ((K k).map ai)/\Bl I wr)) (λ_ t _=>n-(intOf t).toNat);exact⟨0,I.1.size,0,0,nZ _,rfl,rfl,nR _,ay (by rw[H0.o];exact⟨rfl,oM I #[] 0 (nR _) Dd rfl,d0.o⟩)⟩;clear d0;obtain⟨k,g,cp,lk,hk,rfl,rfl,e5,V⟩:=hrel;have e6:=V.o.2.2.size;by_cases a9:k<n
 .have i1:(k:Int)<n:=Oo;have i2:(k:Int)<no:=Oo;rcases d8.o with h0|⟨b,q,rfl,M⟩;omega;rcases d9.o with h0|⟨bo,qo,rfl,O⟩;omega;have c1:=(V.o.2.2.cell (bL I _ (M k a9))).trans (M k a9);have c2:=(V.o.2.2.cell (bL I _ (O k Oo))).trans (O k Oo);have c3:=(V.o.2.2.cell (bL I _ c8)).trans c8;have HK:=ay (λW (hW:Bl I W)=>ze W _ vars (U o k 0) (HV.o.zz hW) Oo);have e1:=HS.o k a9;have ey:oD (U o k 0∈vars)=qV o vars k:=rfl;rw[ey]at HK;clear M O ey;generalize qV o vars k=y at *;generalize U p k 0=x at *;generalize U o k 0=ov at *;have b1:=ay λq=>rB V.o.2.2 q;cases y
  .rw[fF Dd,dU]at e1;have HF:Hh (∀d,lk=E (K (k+1))/\oW (wr.drewN d) I.1.size 3 1 (sZ g 0 lk cp) lk ((K (k+1)).map ai)/\Bl I (wr.drewN d)):=ay (λd=>by rw[e1];exact⟨V.o.1,V.o.2.1,rB V.o.2.2 d⟩);clear e1 V;go_upto_region 5 with fail;go_quiet (first|go_at_call 43;exact Calls.quiet_of_same (HK.o _ (b1.o _)))
   go_wp2;go_roundw;exact⟨k+1,g,cp,lk,Oo,Gg,rfl,Oo,ay (HF.o nq)⟩;exact Im
  rw[fE rfl]at e1;have E1:=ay e1;clear e1;go_upto_region 5 with fail;go_quiet (first|go_at_call 43;exact Calls.quiet_of_same (HK.o _ (b1.o _)))
  have b7:Hh (oW (wr.drewN nq) I.1.size 3 1 (sZ g 0 lk cp) lk ((K k).map ai)):=ay V.o.2.1;have b8:=ay (b1.o nq);have d1:=b8.o.size;generalize wr.drewN nq=wd at b7 b8 d1 |-;go_wp2_with (first
   |(at_builtin;refine apL rfl rfl tU Tryz.infoInt (b7.o.alloc _) rfl rfl (qH _ _ _) Sy ?_;intro g3 cp3 w3 a6 a3 d2 d3)|fail)
  have HF:Hh (lk+1=E (K (k+1))/\oW w3 I.1.size 3 1 (sZ g3 0 (lk+1) cp3) (lk+1) ((K (k+1)).map ai)/\Bl I w3):=ay (by
   rw[E1.o,lA,lS,mA];exact⟨by rw[V.o.1],a6,(b8.o.alloc d1 _).grown a3 Sy (λq hq=>(b7.o.lt q hq).1)⟩)
  clear a6 a3 d2 d3 V;go_roundw;exact⟨k+1,g3,cp3,lk+1,Oo,Gg,rfl,Oo,HF⟩;exact Im
 obtain rfl:k=n:=Oo;have i1:¬((k:Int)<k):=Oo;obtain⟨h1,h3,h4⟩:=V.o;have HF:Hh (oW wr (J w.1) 3 1 (Z (Q (az g 0)) (E (K k)) cp) (E (K k)) ((K k).map ai)/\Bl w wr):=ay (by rw[<-h1];exact⟨qE h3 (O1 c9.o),d7.o.trans (h4.mono (O1 c9.o))⟩);have H1:=ay h1;clear h1 h3 h4 V;go_wp2;go_ret;exact⟨g,cp,by rw[H1.o];rfl,HF.o.1,HF.o.2⟩
def kA(R:LL)(q:LI):Nat:=R.findIdx λr=>!oD (cmpL (r.take (E q)) q<0)
def nA(R:LL)(q:LI):Nat:=(R.drop (kA R q)).findIdx λr=>!oD (r.take (E q)=q)
def nN(m:Nat)(R:LL)(q:LI):LI:=if E q<m then VA R q (kA R q) (nA R q) else []
section
variable {R:LL} {q:LI}
def qG1(O:SL R):Sk R q (kA R q):=by
 have hle:kA R q<=E R:=findIdx_le_length;have I:∀j,j<kA R q->cmpL ((U R j []).take (E q)) q<0:=λj V=>by
  have:=not_of_lt_findIdx V;rw[nU,dE]at this;rw[gD,gE Oo];exact this
 refine⟨hle,I,λj h1 h2 hc=>?_⟩;have K:kA R q<E R:=Oo;have M:=findIdx_getElem (w:=K);rw[eY,aP]at M;refine M ?_;have:=qC5 O h1 h2 hc;rwa[gD,gE K]at this
def VH:Run R q (kA R q) (nA R q):=by
 have hle:nA R q<=E (R.drop (kA R q)):=findIdx_le_length;rw[dP]at hle;have K:kA R q<=E R:=findIdx_le_length;refine⟨Oo,λj I=>?_⟩;have:=not_of_lt_findIdx I;rw[nU,dE,getElem_drop]at this;rw[gD,gE Oo];exact this
def qEw(h:kA R q+nA R q<E R):(U R (kA R q+nA R q) []).take (E q)≠q:=by
 have I:nA R q<E (R.drop (kA R q)):=by rw[dP];omega
 have K:(!oD (((R.drop (kA R q))[nA R q]'I).take (E q)=q)):=findIdx_getElem (w:=I);rw[eY,aP,getElem_drop]at K;rw[gD,gE h];exact K
def qGD(hS:SL R){k n}(K:Sk R q k)(h:Run R q k n)(hE:k+n<E R->(U R (k+n) []).take (E q)≠q):k=kA R q/\n=nA R q:=by
 have M:=qG1 (q:=q) hS;have O:k=kA R q:=by
  rcases oE k (kA R q)with I|I|I;exact absurd (M.lo k I) (K.hi k eA (O1 M.le));exact I;exact absurd (K.lo _ I) (M.hi _ eA (O1 K.le))
 subst O;refine⟨rfl,?_⟩;have V:=VH (R:=R) (q:=q);rcases oE n (nA R q)with I|I|I;exact absurd (V.beg n I) (hE (O1 V.le));exact I;exact absurd (h.beg _ I) (qEw (O1 h.le))
end
def qDj(M:SL R)(hl:∀r∈R,E r=m):TM R (λp=>p=[]\/∃r∈R,p <+:r) (nN m R):=by
 refine⟨λp=>sJ,λp _ x=>?_,λp _=>?_⟩
 .unfold nN;by_cases h:E p<m
  .rw[fE h,qJC M (λr K=>by rw[hl r K];exact h) (qG1 M) VH qEw];constructor;exact .inr;rintro (I|I);simp at I;exact I
  rw[fF h];constructor;intro I;cases I
  rintro (I|⟨r,K,I⟩);simp at I;have:=I.length_le;rw[lA,lS,hl r K]at this;omega
 unfold nN;by_cases h:E p<m;rw[fE h];exact qEv M (λr K=>by rw[hl r K];exact h) _ VH;rw[fF h];exact iO
structure SdM where
 m:LI
 x:LL
def qg:SdM:=⟨[],[]⟩
def sdO(o:LI)(s:SdM):Sd:=⟨qV o s.m,s.x,nN (E s.m) s.x⟩
structure SdM.Ok(s:SdM):Prop where
 sl:SL s.x
 C:∀r∈s.x,E r=E s.m
def qEx{s}(h:s.Ok):(sdO o s).Ok:=⟨qDj h.sl h.C⟩
def qAp{q}:vf R q↔∃r∈R,q <+:r:=by
 unfold vf;rw[iY];constructor;rintro⟨r,I,h⟩;refine⟨r,I,?_⟩;rw[<-aN h];exact sD _ _;rintro⟨r,I,t,K⟩;exact⟨r,I,fD (by rw[<-K,take_left])⟩
def SdAt(W:oX)(b o:Nat)(s:SdM):Prop:=∃a0 c0 a1 c1,eQ W (az b o)=Q (Z a0 (E s.m) c0)/\eQ W (az b (o+1))=Q (Z a1 (E s.x) c1)/\IS W (Z a0 (E s.m) c0) s.m/\ISSc W (Z a1 (E s.x) c1) s.x
def ISds(W:oX)(v:oV)(ss:List SdM):Prop:=∃a cap,v=Z a (E ss) cap/\(E ss=0\/∃b o,a=Q (az b o)/\∀j,j<E ss->SdAt W b (o+j*2) (U ss j qg))
def SdAt.zz{o s}(h:SdAt W b o s)(hb:Bl W W'):SdAt W' b o s:=by
 have⟨a0,c0,a1,c1,I,K,M,O⟩:=h;exact⟨a0,c0,a1,c1,(hb.cell (bL W _ I)).trans I,(hb.cell (bL W _ K)).trans K,M.zz hb,O.zz hb⟩
def zo(o:LI)(ss:List SdM)(n:Nat):Nat:=ss.findIdx λs=>qV o s.m n
def qHt{ss n}(h:∃s∈ss,qV o s.m n):zo o ss n<E ss:=findIdx_lt_length_of_exists h
def qCt{ss n}(h:zo o ss n<E ss):qV o (U ss (zo o ss n) qg).m n:=by
 have:=findIdx_getElem (w:=h);rw[gD,gE h];exact this
def qHu{ss n}(h:j<zo o ss n)(I:j<E ss):qV o (U ss j qg).m n=false:=by
 have:=not_of_lt_findIdx h;rw[gD,gE I];exact this
def xe(o:LI)(ss:List SdM)(p:LI)(x:Int)(j:Nat):Bool:=(range j).all λt=>oD (t=zo o ss (E p))||!qV o (U ss t qg).m (E p)||vf (U ss t qg).x (prt (qV o (U ss t qg).m) p++[x])
def qE3 o ss p x j:xe o ss p x (j+1)=(xe o ss p x j&&(oD (j=zo o ss (E p))||!qV o (U ss j qg).m (E p)||vf (U ss j qg).x (prt (qV o (U ss j qg).m) p++[x]))):=by
 unfold xe;rw[dQ,all_append];simp
def qHv{ss}(a5:∀s∈ss,s.Ok){p}(hH:Hld (ss.map (sdO o)) p)(hf:zo o ss (E p)<E ss)(a3:∀s∈ss,qV o s.m (E p)->E (prt (qV o s.m) p)<E s.m):
 xy (ss.map (sdO o)) p=(VA (U ss (zo o ss (E p)) qg).x (prt (qV o (U ss (zo o ss (E p)) qg).m) p) (kA (U ss (zo o ss (E p)) qg).x (prt (qV o (U ss (zo o ss (E p)) qg).m) p)) (nA (U ss (zo o ss (E p)) qg).x (prt (qV o (U ss (zo o ss (E p)) qg).m) p))).filter λx=>xe o ss p x (E ss):=by
 have K:∀j,j<E ss->U ss j qg∈ss:=λj hj=>by rw[gD,gE hj];exact gM hj
 have hm:=K _ hf;have hh:=qCt hf;have I:∀s∈ss.map (sdO o),s.Ok:=λs hs=>by
  obtain⟨t,V,rfl⟩:=cC.1 hs;exact qEx (a5 t V)
 rw[XU I (dF hm) hH hh];unfold uH;have e:(sdO o (U ss (zo o ss (E p)) qg)).N (prt (sdO o (U ss (zo o ss (E p)) qg)).H p)=VA (U ss (zo o ss (E p)) qg).x (prt (qV o (U ss (zo o ss (E p)) qg).m) p) (kA (U ss (zo o ss (E p)) qg).x (prt (qV o (U ss (zo o ss (E p)) qg).m) p)) (nA (U ss (zo o ss (E p)) qg).x (prt (qV o (U ss (zo o ss (E p)) qg).m) p)):=fE (a3 _ hm hh);rw[e];refine pE λx hx=>?_;rw[<-e]at hx;rw[pL,kP];unfold xe;rw[aT];constructor
 .intro h t V;have O:=cJ.1 V;by_cases e1:t=zo o ss (E p);simp[e1];cases hb:qV o (U ss t qg).m (E p)
  simp;have M:=h _ (dF (K t O)) hb;rw[(I _ (dF (K t O))).tm.mem _ (hH _ (dF (K t O)))]at M;rcases M with M|M;simp at M;have h2:vf (U ss t qg).x (prt (qV o (U ss t qg).m) p++[x]):=qAp.2 M;rw[h2,Bool.or_true]
 intro h s hs a4;obtain⟨q,hq,rfl⟩:=cC.1 hs;obtain⟨t,V,rfl⟩:=gO hq;have hg:U ss t qg=ss[t]:=by rw[gD,gE V];rfl
 rw[<-hg]at hs a4 |-;by_cases e1:t=zo o ss (E p);rw[e1];exact hx;have M:=h t (cJ.2 V);have a6:qV o (U ss t qg).m (E p):=a4;rw[fC e1,a6]at M;have h2:vf (U ss t qg).x (prt (qV o (U ss t qg).m) p++[x]):=by simpa using M
 exact((I _ hs).tm.mem _ (hH _ hs) x).2 (.inr (qAp.1 h2))
def upJ{o}(hb:Bl X Y)(I:eQ X (az b o)=Q v):eQ Y (az b o)=Q v:=(hb.cell (bL X _ I)).trans I
def qDk W x0 x1:Bl W (S W (eZ #[x0,x1] 161))/\eQ (S W (eZ #[x0,x1] 161)) (az (J W.1) 0)=Q x0/\eQ (S W (eZ #[x0,x1] 161)) (az (J W.1) 1)=Q x1:=by
 refine⟨aK,?_,?_⟩;all_goals(rw[eH rfl];rfl)
structure JN(w W:oX)(g3:Nat)(PB:Obj)(g c lk:Nat)(L:LI):Prop where
 O:Bl w W
 prt:W.1[g3]?=Q PB
 z:oW W (J w.1) 3 1 (sZ g 0 lk c) lk (L.map ai)
 ne:g≠g3
def ltJ{o}(h:W.1[b]?=Q o):b<J W.1:=(dK.1 h).1
def JN.zz(h:JN w W g3 PB g c lk L)(hb:Bl W W'):JN w W' g3 PB g c lk L:=
 ⟨bt h.O hb,(hb.block _ (ltJ h.prt)).trans h.prt,qB h.z hb,h.ne⟩
def JN.push{g' c' o}(h:JN w W g3 PB g c lk L)(O:(S W o).grownBy w3 (sZ g 0 lk c).ownBlock)(I:oW w3 (J w.1) 3 1 (sZ g' 0 (lk+1) c') (lk+1) (L.map ai++[ai x]))(K:(sZ g 0 lk c).ownBlock=Q g'\/g'=J (S W o).1):JN w w3 g3 PB g' c' (lk+1) (L++[x]):=by
 have hl:=ltJ h.prt;refine⟨?_,?_,by rw[mA];exact I,?_⟩;exact(h.O.alloc h.O.size _).grown O (by rw[aM];have:=h.O.size;omega) (λq hq=>(h.z.lt q hq).1);exact(zD O hl (λe=>h.ne (by simp[wN]at e;exact e.symm))).trans h.prt;rcases K with M|M
 .have:g=g':=by simpa[wN]using M
  rw[<-this];exact h.ne
 rw[M,aM];omega
def qGH{a}(hb:Bl X Y)(I:X.cell? a=Q v):Y.cell? a=Q v:=(hb.cell (bL X _ I)).trans I
def qHw{n l}(h:oW w B 3 1 v (n+1) (l.map ai++[ai x])):IS w v (l++[x]):=by
 have e:n+1=E (l++[x]):=by have:=h.1;simp at this;simp;omega
 rw[e]at h;exact qN (by rw[mA];exact h)
section
variable {P:Program} {w:oX}
def ZM{ops o a}{K:Act->WP}{iQ:Exit->Act->WP}{iE}(hw:Region.wanted o (yielded ops a.tmps)){s x}t
 (ho:o.op=.call { callee:=.builtin .append,args:=#[s,x],argTypes:=#[t,t] })
 base e i z size bytes (ht:P.underlying t=Q (.slice e)) (hi:P.info? e=Q i) (hz:i.zero=Q z)
 (M:i.size=size) (a4:i.bytes=bytes) (a5:z.cells.size=size) (hsz:0<size)
 v n {xs:LV} (hs:a.eval s=v) (a3:oW w base e size v n xs)
 ad m c (news:LV) (hx:a.eval x=Z (Q ad) m c) (hl:E news=m*size) (O:∀j u,news[j]?=Q u->w.cell? (ad.add j)=Q u) (h1:∀u∈news,u.oneCell')
 (hm:0<m) (a6:n+m<=maxLen) (I:(n+m)*bytes<=140737488355328) (V:base<=J w.1) {H}(hH:J w.1=H)
 (h:∀g cap w',oW w' base e size (sZ g 0 (n+m) cap) (n+m) (xs++news)->w.grownBy w' v.ownBlock->(v.ownBlock=Q g\/g=H)->g<J w'.1->K (a.put o.dst (sZ g 0 (n+m) cap)) w'):
 if Region.wanted o (yielded ops a.tmps)=true then Oper.wp P o a w K iQ else iE:=by
 rw[fE hw];exact wp_append_lies w s x t ho _ e i z _ _ ht hi hz M a4 a5 hsz v n _ hs a3 _ m c _ hx hl O h1 hm a6 I V H hH h
end
def qAv w v vo vp ss o p(h:ISds w v ss)(ho:IS w vo o)(hp:IS w vp p)(k5:E p<E o)(t3:E o<=1000)(t4:E ss<=1000)(i3:∀s∈ss,s.Ok/\E s.x<=100000/\E s.m<=1000)(hH:Hld (ss.map (sdO o)) p)(hf:zo o ss (E p)<E ss)(d7:∀s∈ss,E (prt (qV o s.m) p)<=E s.m/\(qV o s.m (E p)->E (prt (qV o s.m) p)<E s.m)):
 Cl 77 #[v,vo,vp] w λe w'=>∃g c,e=rE (Z (Q (az g 0)) (E (xy (ss.map (sdO o)) p)) c)/\oW w' (J w.1) 3 1 (Z (Q (az g 0)) (E (xy (ss.map (sdO o)) p)) c) (E (xy (ss.map (sdO o)) p)) ((xy (ss.map (sdO o)) p).map ai)/\Bl w w':=by
 obtain⟨i0,hi,k6,k7,k8⟩:=aX Tryz.infoInt;rw[qHv (λs hs=>(i3 s hs).1) hH hf (λs hs=>(d7 s hs).2)];have i4:∀j,j<E ss->U ss j qg∈ss:=λj hj=>by rw[gD,gE hj];exact gM hj
 have i5:=qCt hf;have d8:∀j,j<zo o ss (E p)->j<E ss->qV o (U ss j qg).m (E p)=false:=λj h1 h2=>qHu h1 h2;obtain⟨aS,cS,rfl,hS⟩:=h;rcases hS with h0|⟨bS,oS,rfl,hS⟩;omega;have HO:=ay ho;have HP:=ay hp;obtain⟨ao,co,rfl,i6⟩:=ho;obtain⟨ap,t5,rfl,-⟩:=hp;rcases i6 with h0|⟨bo,qo,rfl,i6⟩;omega;have c1:=i6 _ k5;obtain⟨F,hF⟩:=Ex (zo o ss (E p));rw[<-hF]at hf i5 d8 |-;have n8:Hh (∀x j,xe o ss p x (j+1)=(xe o ss p x j&&(oD (j=F)||!qV o (U ss j qg).m (E p)||vf (U ss j qg).x (prt (qV o (U ss j qg).m) p++[x])))):=ay λx j=>by rw[qE3,hF]
 have t6:Hh (∀x,xe o ss p x 0):=ay λx=>rfl;obtain⟨AN,k9⟩:=Ex ((VA (U ss F qg).x (prt (qV o (U ss F qg).m) p) (kA (U ss F qg).x (prt (qV o (U ss F qg).m) p)) (nA (U ss F qg).x (prt (qV o (U ss F qg).m) p))).filter λx=>xe o ss p x (E ss));rw[<-k9];have t7:=ay k9;clear hF hH i6 k9;obtain⟨n,hn⟩:=Ex (E p);obtain⟨no,l0⟩:=Ex (E o);obtain⟨M,l1⟩:=Ex (E ss);have HN:=ay (And.intro hn (And.intro l0 l1));have KH:Hh (∀W a0 c0 j,j<M->IS W (Z a0 (E (U ss j qg).m) c0) (U ss j qg).m->Cl 43 #[Z a0 (E (U ss j qg).m) c0,ai (U o (E p) 0)] W λe w'=>e=rE (oB (qV o (U ss j qg).m (E p)))/\w'=W):=ay λW a0 c0 j hj hI=>ze W _ _ _ hI (by have:=(i3 _ (i4 j Oo)).2.2;omega);rw[<-hn]at c1 k5 i5 d8 KH n8 |-;rw[<-l0]at k5 t3 |-;rw[<-l1]at t4 hf d8 i4 hS |-;have HS:=ay hS;have t8:=ay d8;have n9:=ay i5;have o3:=ay i3;have o4:=ay d7;have i7:=ay i4;clear hn l0 l1 hS d8 i5 i3 d7 i4;generalize U o n 0=ov at *;have o5:(n:Int)<no:=Oo;obtain⟨W1,i8⟩:=Ex (S w (eZ #[] 3));have l2:Hh (Bl w W1):=ay (by rw[i8];exact(bJ _ _).alloc (nR _) _);have o6:Hh (oW W1 (J w.1) 3 1 (sZ (J w.1) 0 0 0) 0 []):=ay (by rw[i8];exact oM w _ 0 (nR _) Dd rfl);go_enter func77,ntmps77;go_upto_region 3 with fail;rw[<-i8];clear i8 c1;go_upto_block 0 with fail;go_cut [9] (λv9 wx=>v9=ai (F:Int)/\Hh (Bl W1 wx))
 case first=>
  go_wp2;go_loopw [9,28] (λv9 t wr=>∃O:Nat,O<=M/\t=ai O/\v9=ai (if F<O then (F:Int) else -1)/\Hh (Bl W1 wr)) (λ_ t _=>M-(intOf t).toNat);exact⟨0,nZ _,rfl,by rw[fF Oo],ay (bJ _ _)⟩;obtain⟨O,B3,rfl,rfl,HB⟩:=hrel;by_cases a5:O<M
  .have i1:(O:Int)<M:=Oo;obtain⟨a0,c0,a1,d9,e0,e1,e2,-⟩:=HS O a5;have I:=bt l2 HB;replace e0:=upJ I e0;replace e1:=upJ I e1;obtain⟨l3,d0,d1⟩:=qDk wr (Z a0 (E (U ss O qg).m) c0) (Z a1 (E (U ss O qg).x) d9);have t9:=ay (e2.zz (bt I l3));have l4:=ay (bt HB l3);clear e2 l3 I;have HK:=ay (KH _ _ _ O a5 t9);by_cases o7:F<O
   .rw[fE o7];have i2:¬(F:Int)<0:=Oo;clear HK KH;go_wp2;go_roundw;exact⟨O+1,Oo,Gg,by rw[fE Oo],l4⟩;exact Im
   rw[fF o7];by_cases l5:O=F
   .have hy:qV o (U ss O qg).m n:=by rw[l5];exact n9
    rw[hy]at HK;have HEq:=ay l5;have o8:F<O+1:=Oo;clear KH hy l5;go_wp2_with (go_at_call 43;apply HK.o.mono;rintro e w2 ⟨rfl,v6⟩;subst w2);go_roundw;exact⟨O+1,Oo,Gg,by rw[fE o8,HEq.o],l4⟩;exact Im
   have hy:=t8 O Oo a5;rw[hy]at HK;clear KH hy;go_wp2_with (go_at_call 43;apply HK.o.mono;rintro e w2 ⟨rfl,v6⟩;subst w2);go_roundw;exact⟨O+1,Oo,Gg,by rw[fF Oo],l4⟩;exact Im
  obtain rfl:O=M:=Oo;have i1:¬(O:Int)<O:=Oo;rw[fE Oo];go_wp2;go_meet;exact⟨rfl,HB⟩
 case rest=>
 obtain⟨rfl,hcut⟩:=hcut;have l6:=hcut;clear hcut;generalize wc=W2 at *;obtain⟨a0,c0,a1,d9,e0,e1,e2,e3⟩:=HS F hf;have I:=bt l2 l6;have B4:(F:Int)<M:=Oo;replace e0:=upJ I e0;replace e1:=upJ I e1;have v7:=ay (e2.zz I);have o9:=ay (e3.zz I);have p5:=ay e3;have B5:=ay I;obtain⟨⟨e4,b7⟩,x3,l7⟩:=o3 _ (i7 F hf);obtain⟨-,p6⟩:=o4 _ (i7 F hf);have A2:=p6 (by have:=n9.o;rwa[HN.o.1]at this);have l8:=ay e4;have i9:=ay b7;clear e2 e3 e4 b7 p6;generalize hfd:U ss F qg=f at *;have B7:=ay hfd;clear hfd;have p7:Hh (∀W,Bl W2 W->Cl 104 #[aQ #[Z a0 (E f.m) c0,Z a1 (E f.x) d9],sZ bo qo no co,Z ap n t5] W λe w'=>∃g c,e=rE (Z (Q (az g 0)) (E (prt (qV o f.m) p)) c)/\oW w' (J W.1) 3 1 (Z (Q (az g 0)) (E (prt (qV o f.m) p)) c) (E (prt (qV o f.m) p)) ((prt (qV o f.m) p).map ai)/\Bl W w'):=ay λW hW=>by
  have h1:=HO.o.zz (bt I hW);have h2:=HP.o.zz (bt I hW);have:=Zt W _ a1 (E f.x) _ d9 _ o p (v7.o.zz hW) h1 h2 (O1 HN.o) (O1 HN.o) l7;rwa[<-HN.o.1,<-HN.o.2.1]at this
 generalize hq:prt (qV o f.m) p=q at *;have HQ:=ay hq;clear hq;go_upto_region 12 with (go_at_call 104;apply (p7.o _ (bJ _ _)).mono;rintro e w3 ⟨g3,c3,rfl,j0,l9⟩);have p8:=ay (qN j0);have p9:=ay (o9.o.zz l9);have m0:=ay (bt l6 l9);have q0:=ay j0;have hg3:=j0.lt g3 rfl;have A3:=l6.o.size;have A4:=(o6.o.lt (J w.1) rfl).2;have m1:=ay (uR _ _ q p9 p8 l8 Oo (λr hr=>O1 (i9 r hr)));have m2:Hh (∀d,JN w (w3.drewN d) g3 (w3.1[g3]'hg3.2) (J w.1) 0 0 []):=ay λd=>⟨rB (bt l2 m0) d,dC hg3.2,qB o6 (rB m0 d),Oo⟩;have q8:Hh (∀W,W.1[g3]?=Q (w3.1[g3]'hg3.2)->IS W (sZ g3 0 (E q) c3) q):=ay λW hW=>qN (qD q0 λb hb=>by
  have e:g3=b:=by simpa[wN]using hb
  subst e;rw[hW,dC hg3.2])
 generalize w3.1[g3]'hg3.2=PB at m2 q8;clear j0 l9 p7 e0 e1;go_upto_region 13 with (go_at_call 47;apply m1.o.mono;rintro e w4 ⟨k,rfl,j2,dq,rfl⟩);have m3:=ay (m2 dq);generalize w3.drewN dq=W4 at m3 |-;obtain⟨R,hR⟩:=Ex f.x;obtain⟨nr,e5⟩:=Ex (E f.x);have x4:=ay hR;have a6:Hh (nr=E R):=ay (by rw[hR];exact e5);have x5:k<=nr:=by rw[e5];exact j2.le
 rw[<-hR]at l8 i9 j2 m1;have x7:Hh (ISSc w (Z a1 nr d9) R):=ay (by rw[hR,e5];exact p5);have A5:nr<=100000:=Oo;rw[<-e5];have y0:=ay j2;have a4:Hh (∀m,Run R q k m->(k+m<nr->(U R (k+m) []).take (E q)≠q)->((VA R q k m).filter λx=>xe o ss p x M)=AN):=ay λm h1 h2=>by
  obtain⟨e1,e2⟩:=qGD l8 y0 h1 (by have:=a6.o;rw[<-this];exact h2);rw[t7.o,<-x4.o,<-e1,<-e2,HN.o.2.2]
 clear hR e5 j2 m1 p9 o9 p5 m2 m0 q0 p8;go_upto_block 2 with fail;go_wp2_with fail;go_loopg [8,15] (nr-k) (λgk v8 y1 wx=>∃(m g c lk:Nat),k+m<=nr/\y1=ai ((k+m:Nat):Int)/\v8=sZ g 0 lk c/\lk<=m/\gk=nr-(k+m)/\Hh (Run R q k m/\lk=E ((VA R q k m).filter λx=>xe o ss p x M)/\JN w wx g3 PB g c lk ((VA R q k m).filter λx=>xe o ss p x M)))
 case atStart=>exact⟨0,J w.1,0,0,x5,Fl,rfl,nR _,Oo,ay ⟨⟨O1 a6.o,λj hj=>Oo⟩,rfl,m3⟩⟩
 case round=>
  clear m3;obtain⟨m,g,c,lk,B8,rfl,rfl,B9,C0,HI⟩:=hrel;generalize wr=wo at *;obtain⟨j6,k0,q9⟩:=HI.o;have e6:=ay j6;have e7:=ay k0;have V:=ay q9;clear HI j6 k0 q9;by_cases y2:k+m<nr
  .have q1:((k+m:Nat):Int)<(nr:Int):=Oo;obtain⟨aR,cR,eR,e8⟩:=x7.o;simp only[vI]at eR;obtain⟨rfl,-,rfl⟩:=eR;rcases e8 with h0|⟨bR,oR,rfl,e8⟩;have:=a6.o;omega;obtain⟨u,hu,⟨au,cu,rfl,f7⟩,k3⟩:=e8 (k+m) (O1 a6.o);have y3:U R (k+m) []∈R:=by rw[gD,gE (O1 a6.o)];exact gM _
   have b7:=i9 _ y3;rcases f7 with h0|⟨bU,oU,rfl,f7⟩;omega;have y4:E (U R (k+m) [])<=cu:=by obtain⟨_,_,_,e9,h9⟩:=k3;simp only[vI]at e9;omega
   have r3:=ay e8;obtain⟨lr,r4⟩:=Ex (E (U R (k+m) []));have r5:eQ wo (az bR (oR+(k+m)))=Q (sZ bU oU lr cu):=by rw[r4];exact upJ V.o.O hu
   have a7:Hh (∀W,W.1[g3]?=Q PB->Bl w W->Cl 62 #[sZ bU oU (E q) cu,sZ g3 0 (E q) c3] W λe w'=>e=rE (ai (cmpL ((U R (k+m) []).take (E q)) q))/\∃d,w'=W.drewN d):=ay λW h1 h2=>zN W _ _ _ (UX ((show IS w _ _ from ⟨_,_,rfl,Or.inr ⟨bU,oU,rfl,f7⟩⟩).zz h2) Oo) (q8.o W h1) (by rw[bZ];omega) Oo;have cX:eQ wo (az bU (oU+E q))=Q (ai (vlA R q (k+m))):=upJ V.o.O (f7 (E q) Oo);have A6:(E q:Int)<(lr:Int):=Oo;have A7:(E q:Int)<=(cu:Int):=Oo;clear e8 k3 hu f7 r4 y4 b7;by_cases hz:(U R (k+m) []).take (E q)=q
   .rw[hz,zj]at a7;have HZ:=ay hz;clear hz;have j3:=ay (a7.o wo V.o.prt V.o.O);clear a7;go_upto_if 74 with (go_at_call 62;apply j3.o.mono;rintro e w5 ⟨rfl,d5,rfl⟩);have b8:=ay (V.o.zz (rB (bJ _ _) d5));have m4:eQ (wo.drewN d5) (az bU (oU+E q))=Q (ai (vlA R q (k+m))):=cX;have r6:eQ (wo.drewN d5) (az bR (oR+(k+m)))=Q (sZ bU oU lr cu):=r5;generalize wo.drewN d5=W5 at b8 m4 r6 |-;have f8:Run R q k (m+1):=⟨O1 a6.o,λj hj=>by
     by_cases e:j=m;subst e;exact HZ.o;exact e6.o.beg j Oo⟩
    have b9:=ay f8;obtain⟨x,hx⟩:=Ex (vlA R q (k+m));have HX:=ay hx;rw[<-hx]at m4;obtain⟨nw,m5⟩:=Ex (Zr R q k m);have m6:=ay m5;have r7:Hh (0<m->∃bP oP lp cp y,eQ W5 (az bR (oR+(k+m-1)))=Q (sZ bP oP lp cp)/\E q<lp/\eQ W5 (az bP (oP+E q))=Q (ai y)/\(y == x)=!nw):=ay λhm=>by
     obtain⟨u',y5,⟨C1,z3,rfl,f9⟩,-⟩:=r3.o (k+m-1) (O1 a6.o);have r8:U R (k+m-1) []∈R:=by rw[gD,gE (O1 a6.o)];exact gM _
     have A8:=i9.o _ r8;rcases f9 with h0|⟨bP,oP,rfl,f9⟩;omega;refine⟨bP,oP,_,z3,vlA R q (k+m-1),upJ b8.o.O y5,Oo,upJ b8.o.O (f9 (E q) Oo),?_⟩;rw[m5,hx];unfold Zr;rw[fC (show ¬m=0 by omega),pF,Bool.not_not];rfl
    clear cX r5 j3 f8 hx m5 r3;go_upto_region 17 with fail;clear m4 r6;go_cut [100] from 59 to 135 (λu wx=>u=oB (!nw)/\wx=W5)
    case first=>
     by_cases z4:0<m
     .obtain⟨bP,oP,lp,cp,y,p1,p2,p3,p4⟩:=r7.o z4;have q3:(k:Int)<k+(m:Int):=Oo;have q4:(k:Int)+(m:Int)-1=((k+m-1:Nat):Int):=Oo;have q5:((k+m-1:Nat):Int)<(nr:Int):=Oo;have q6:(E q:Int)<(lp:Int):=Oo;go_wp2;go_meet;exact⟨by rw[<-p4],rfl⟩
     have q3:¬(k:Int)<k+(m:Int):=Oo;have o5:nw:=by rw[m6.o];unfold Zr;rw[fD (show m=0 by omega)];rfl
     subst o5;go_wp2;go_meet;exact⟨rfl,rfl⟩
    case rest=>
    obtain⟨rfl,C2⟩:=hcut;subst wc;clear r7;cases nw
    .have g4:Hh (VA R q k (m+1)=VA R q k m):=ay (by unfold VA;rw[Qj m6.o.symm]);go_wp2_with fail;go_roundg (nr-(k+(m+1)))
     case measure=>omega
     case rel=>exact⟨m+1,g,c,lk,Oo,Gg,rfl,Oo,rfl,ay ⟨b9.o,by rw[g4.o];exact e7.o,by rw[g4.o];exact b8.o⟩⟩
    have g4:Hh (VA R q k (m+1)=VA R q k m++[x]):=ay (by unfold VA;rw[XA m6.o.symm,mA,HX.o];rfl);go_upto_block 4 with fail;go_cut [17] from 59 to 135 (λu wx=>u=oB (xe o ss p x M)/\Hh (Bl W5 wx))
    case first=>
     go_wp2;go_loopw [17,103] (λv17 t wy=>∃j:Nat,j<=M/\t=ai j/\v17=oB (xe o ss p x j)/\Hh (Bl W5 wy)) (λ_ t _=>M-(intOf t).toNat);exact⟨0,nZ _,rfl,by rw[t6.o x],ay (bJ _ _)⟩;obtain⟨j,C3,rfl,rfl,HB⟩:=hrel;generalize wr=wy at *;by_cases a5:j<M
     .have j1:(j:Int)<M:=Oo;obtain⟨b0,d0,b1,d1,e0,e1,e2,e3⟩:=HS.o j a5;have I:=bt b8.o.O HB.o;replace e0:=upJ I e0;replace e1:=upJ I e1;have HAS:=ay (n8.o x j);obtain⟨⟨e4,b7⟩,x3,l7⟩:=o3.o _ (i7.o j a5);obtain⟨r9,m7⟩:=o4.o _ (i7.o j a5);have m8:=ay λW (hW:Bl wy W)=>KH.o W b0 d0 j a5 (e2.zz (bt I hW));generalize hsd:U ss j qg=sd at *;generalize hal:xe o ss p x j=al at *;obtain⟨hy,m9⟩:=Ex (qV o sd.m n);rw[<-m9]at HAS m8;have z5:=ay m9;have C4:=ay hsd;clear m9 hsd hal;obtain⟨W6,g5⟩:=Ex (S wy (eZ #[Z b0 (E sd.m) d0,Z b1 (E sd.x) d1] 161));have d4:Bl wy W6:=by rw[g5];exact(bJ _ _).alloc (nR _) _
      have f0:eQ W6 (az (J wy.1) 0)=Q (Z b0 (E sd.m) d0):=by rw[g5];exact(qDk _ _ _).2.1
      have f1:eQ W6 (az (J wy.1) 1)=Q (Z b1 (E sd.x) d1):=by rw[g5];exact(qDk _ _ _).2.2
      have a8:=ay (bt HB.o d4);have n3:=ay (m8.o W6 d4);go_upto_region 22 with fail;rw[<-g5];clear g5 e0 e1 m8;by_cases g6:j=F
      .have q7:((j:Int) != (F:Int))=false:=Sy;have K:xe o ss p x (j+1)=al:=by rw[HAS.o,fD g6];simp
       have a3:=ay K;clear K g6 n3;go_wp2;go_roundw
       case rel=>first|exact⟨j+1,Oo,Gg,by rw[a3.o],a8⟩|((repeat apply oJ);exact⟨⟨j+1,Oo,Gg,by rw[a3.o],a8⟩,rfl⟩)
       case measure=>exact Im
      have q7:((j:Int) != (F:Int)):=Sy;cases hy
      .have K:xe o ss p x (j+1)=al:=by rw[HAS.o];simp
       have a3:=ay K;clear K g6;go_wp2_with (go_at_call 43;apply n3.o.mono;rintro e w7 ⟨rfl,hw7⟩;subst w7);go_roundw
       case rel=>first|exact⟨j+1,Oo,Gg,by rw[a3.o],a8⟩|((repeat apply oJ);exact⟨⟨j+1,Oo,Gg,by rw[a3.o],a8⟩,rfl⟩)
       case measure=>exact Im
      have s3:=ay (e2.zz (bt I d4));have s4:=ay (e3.zz (bt I d4));have s5:=ay (HO.o.zz (bt I d4));have s6:=ay (HP.o.zz (bt I d4));obtain⟨pq,n4⟩:=Ex (prt (qV o sd.m) p);rw[<-n4]at HAS r9 m7;have A9:=m7 (by have:=z5.o;rw[HN.o.1]at this;exact this.symm);have B0:E pq<=1000:=Oo;have n5:=ay λW hW=>by
       have:=Zt W b0 b1 (E sd.x) d0 d1 sd.m o p (s3.o.zz hW) (s5.o.zz hW) (s6.o.zz hW) (O1 HN.o) (O1 HN.o) l7;rwa[<-HN.o.1,<-HN.o.2.1,<-n4]at this
      have s7:Hh (∀W vq,Bl W6 W->IS W vq (pq++[x])->Cl 105 #[Z b1 (E sd.x) d1,vq] W λe w'=>e=rE (oB (vf sd.x (pq++[x])))/\∃d,w'=W.drewN d):=ay λW vq hW hI=>UY W sd.x (s4.o.zz hW) hI e4 Oo (λr hr=>by have:=b7 r hr;rw[lA,lS];omega);have K:xe o ss p x (j+1)=(al&&vf sd.x (pq++[x])):=by rw[HAS.o,fC g6];simp
      have a3:=ay K;clear K g6 HAS r9 m7 n4 s3 s4 s5 s6 e4 b7 e2 e3;generalize vf sd.x (pq++[x])=bg at *;go_upto_region 23 with (go_at_call 43;apply n3.o.mono;rintro e w7 ⟨rfl,hw7⟩;subst w7);cases al
      .clear n5 s7;go_quiet (fail)
       go_wp2;go_roundw
       case rel=>first|exact⟨j+1,Oo,Gg,by rw[a3.o];rfl,ay (rB a8.o _)⟩|((repeat apply oJ);exact⟨⟨j+1,Oo,Gg,by rw[a3.o];rfl,ay (rB a8.o _)⟩,rfl⟩)
       case measure=>exact Im
      have d6:Hh (∀W,Bl W6 W->eQ W (az (J wy.1) 0)=Q (Z b0 (E sd.m) d0)/\eQ W (az (J wy.1) 1)=Q (Z b1 (E sd.x) d1)/\Bl W6 W):=ay λW hW=>⟨upJ hW f0,upJ hW f1,hW⟩
      first|go_region_held_law (λW=>eQ W (az (J wy.1) 0)=Q (Z b0 (E sd.m) d0)/\eQ W (az (J wy.1) 1)=Q (Z b1 (E sd.x) d1)/\Bl W6 W)
       (first
        |with_reducible exact d6.o _ (bJ _ _).drew
        |with_reducible exact d6.o _ (aK).drew
        |with_reducible exact d6.o _ n6
        |with_reducible exact d6.o _ j4
        |with_reducible exact d6.o _ c9
        |with_reducible exact d6.o _ (c9.alloc h3 _)
        |fail)
       (first
        |(refine ZM Fl 24 rfl (J W6.1) 3 i0 (ai 0) 1 8 tU hi k6 k7 k8 rfl Dd (sZ g7 0 (E pq) c7) (E pq) rfl (h4.alloc _) (az (J w7.1) 0) 1 1 [ai x] rfl rfl (qH _ _ _) Hu Dd Um Oo (by rw[aM];omega) rfl ?_;intro g8 c8 w8 s8 n7 z7 z8;have j4:=(c9.alloc h3 _).grown n7 (by rw[aM];omega) (λq hq=>(h4.lt q hq).1))
        |(refine ZM Fl 24 rfl (J W6.1) 3 i0 (ai 0) 1 8 tU hi k6 k7 k8 rfl Dd (sZ g7 0 (E pq) c7) (E pq) rfl h4 (az (J W6.1) 0) 1 1 [ai x] rfl rfl s9 Hu Dd Um Oo h3 rfl ?_;intro g8 c8 w8 s8 n7 z7 z8;have j4:=c9.grown n7 h3 (λq hq=>(h4.lt q hq).1))
        |(go_simp;go_at_call 104;(with_reducible refine(n5.o _ (bJ _ _).drew).mono ?_);rintro e w7 ⟨g7,c7,rfl,h5,d2⟩;have c9:Bl W6 w7:=(bJ _ _).drew.trans d2;have h4:=qE (B':=J W6.1) h5 (nR _);have h3:=c9.size)
        |(go_simp;go_at_call 104;(with_reducible refine(n5.o _ (aK).drew).mono ?_);rintro e w7 ⟨g7,c7,rfl,h5,d2⟩;have c9:=(aK).drew.trans (d2.mono Ss);have h4:=qE (B':=J W6.1) h5 Ss;have h3:=c9.size;have s9:=(λjj u hu=>qGH d2 (qH W6 (ai x) _ jj u hu)))
        |(go_simp;go_at_call 105;apply (s7.o _ _ j4 (qHw s8)).mono;rintro e w9 ⟨rfl,dd,rfl⟩;have n6:=rB j4 dd)
        |fail)|fail
      all_goals(go_wp2;go_roundw)
      all_goals first
       |exact⟨j+1,Oo,Gg,by rw[a3.o];rfl,ay (bt a8.o n6)⟩
       |((repeat apply oJ);exact⟨⟨j+1,Oo,Gg,by rw[a3.o];rfl,ay (bt a8.o n6)⟩,rfl⟩)
       |(simp[intOf];omega)
     obtain rfl:j=M:=Oo;have j1:¬(j:Int)<j:=Oo;go_wp2;go_meet;exact⟨rfl,HB⟩
    case rest=>
    obtain⟨rfl,hcut⟩:=hcut;have j5:=ay (b8.o.zz hcut.o);have B1:=j5.o.O.size;clear hcut b8;generalize hal:xe o ss p x M=al at *;have t0:=ay hal;clear hal;cases al
    .have h6:Hh ((VA R q k (m+1)).filter (λy=>xe o ss p y M)=(VA R q k m).filter λy=>xe o ss p y M):=ay (by rw[g4.o,cZ];simp[t0.o]);go_wp2_with fail;go_roundg (nr-(k+(m+1)))
     case measure=>omega
     case rel=>exact⟨m+1,g,c,lk,Oo,Gg,rfl,Oo,rfl,ay ⟨b9.o,by rw[h6.o];exact e7.o,by rw[h6.o];exact j5.o⟩⟩
    have h6:Hh ((VA R q k (m+1)).filter (λy=>xe o ss p y M)=((VA R q k m).filter λy=>xe o ss p y M)++[x]):=ay (by rw[g4.o,cZ];simp[t0.o]);have B2:lk<=100000:=Oo;go_wp2_with (first
     |(at_builtin;refine apL rfl rfl tU Tryz.infoInt (j5.o.z.alloc _) rfl rfl (qH _ _ _) (by rw[aM];omega) ?_;intro g9 z9 w9 h7 d3 k4 t1)
     |fail)
    have A0:=ay (j5.o.push d3 h7 k4);clear h7 d3 k4 t1;go_roundg (nr-(k+(m+1)))
    case measure=>omega
    case rel=>exact⟨m+1,g9,z9,lk+1,Oo,Gg,rfl,Oo,rfl,ay ⟨b9.o,by rw[h6.o,lA,<-e7.o];rfl,by rw[h6.o];exact A0.o⟩⟩
   have A1:cmpL ((U R (k+m) []).take (E q)) q≠0:=λe=>hz (cmpL_eq e);have a9:=ay (a4.o m e6.o (λ_=>hz));have j3:=ay (a7.o wo V.o.prt V.o.O);generalize cmpL ((U R (k+m) []).take (E q)) q=cv at *;have q2:(cv == 0)=false:=by simp;exact A1
   clear a4 a7 hz;go_wp2_with (go_at_call 62;apply j3.o.mono;rintro e w5 ⟨rfl,d5,rfl⟩);go_ret;have t2:=V.o.zz (rB (bJ _ _) d5);have h9:=t2.z;rw[a9.o]at h9;have h8:=e7.o;rw[a9.o]at h8;exact⟨g,c,by rw[<-h8];rfl,by rw[<-h8];exact h9,t2.O⟩
  have q1:¬(((k+m:Nat):Int)<(nr:Int)):=Oo;have a9:=ay (a4.o m e6.o (λh=>absurd h y2));clear a4;go_wp2;go_ret;have h9:=V.o.z;rw[a9.o]at h9;have h8:=e7.o;rw[a9.o]at h8;exact⟨g,c,by rw[<-h8];rfl,by rw[<-h8];exact h9,V.o.O⟩
def sdT(o:LI)(t:TbV):SdM:=⟨shr o t.e,srt (t.x.map (qQ t.e (shr o t.e)))⟩
def uI o t:(sdT o t).Ok:=by
 refine⟨(zQ _ _ eA).1,λr I=>?_⟩;obtain⟨q,-,rfl⟩:=cC.1 (((zQ _ _ eA).2 r).1 I);exact vZ
structure TvJ(t:TbV):Prop where
 e:E t.e<=6
 n:E t.x<=10000
 C:∀r∈t.x,E r=E t.e
structure SdR where
 v0:oV
 v1:oV
 s:SdM
def scs(r:SdR):LV:=[r.v0,r.v1]
def El(v:oV)(W:oX)(r:SdR):Prop:=∀W',(∀k,k<J W.1->v.ownBlock≠Q k->W'.1[k]?=W.1[k]?)->IS W' r.v0 r.s.m/\ISSc W' r.v1 r.s.x
def ElS(B:Nat)(W:oX)(r:SdR):Prop:=∀W',(∀k,B<=k->k<J W.1->W'.1[k]?=W.1[k]?)->IS W' r.v0 r.s.m/\ISSc W' r.v1 r.s.x
structure SDs(W:oX)(B:Nat)(v:oV)(sl:List SdR):Prop where
 z:oW W B 161 2 v (E sl) (sl.flatMap scs)
 el:∀r∈sl,El v W r
def SDs.push{sl r o}(h:SDs wr B v sl)(hb:Bl wr W)(he:ElS (J wr.1) W r)(hg:(S W o).grownBy w3 v.ownBlock)(M:oW w3 B 161 2 (sZ g 0 (E sl+1) c) (E sl+1) (sl.flatMap scs++[r.v0,r.v1]))(I:v.ownBlock=Q g\/g=J (S W o).1):
 SDs w3 B (sZ g 0 (E sl+1) c) (sl++[r]):=by
 have hs:=hb.size;have a4:=hg.size;rw[aM]at a4 I;refine⟨by rw[lA,lS,dM];simpa[scs]using M,λq hq W' a5=>?_⟩;have key:∀k,k<J W.1->v.ownBlock≠Q k->g≠k->W'.1[k]?=W.1[k]?:=λk O V K=>by
  rw[a5 k Oo (λe=>K (by simpa[wN]using e)),hg.block k (by rw[aM];omega) (λe=>V e.symm)];exact eL O
 have a3:=λk O=>(h.z.lt k O).2;rcases cF.1 hq with hq|hq
 .refine h.el q hq _ λk O V=>?_;rw[key k Oo V (λe=>?_)];exact hb.block k O;subst e;rcases I with K|K;exact V K;omega
 rw[cI]at hq;subst hq;refine he _ λk V K=>key k K (λe=>?_) (λe=>?_);have:=a3 k e;omega;subst e;rcases I with h3|h3;have:=a3 _ h3;omega;omega
def SDs.zz{sl}(h:SDs W B v sl)(hb:Bl W W'):SDs W' B v sl:=by
 refine⟨qB h.z hb,λr K X M=>h.el r K X λk I O=>?_⟩;rw[M k (bN I hb.size) O];exact hb.block k I
def qJl{α:Type}(c:α->LV)(I:∀x,E (c x)=2)(ss:List α):∀t,(ss.flatMap c)[t]?=(ss[t / 2]?).bind λx=>(c x)[t % 2]?:=by
 induction ss with
 |nil=>intro t;simp
 |cons x r ih=>
  intro t;rw[dS];by_cases h:t<2;rw[aL (by rw[I];omega),sU h,rG h];rfl;obtain⟨s,rfl⟩:∃s,t=s+2:=⟨t-2,Oo⟩;rw[bQ (by rw[I];omega)];have e:s+2-E (c x)=s:=by rw[I];omega
  rw[e,ih s,sM,sN _ Dd];rfl
def SDs.isds{sl}(h:SDs W B v sl):ISds W v (sl.map SdR.s):=by
 rcases h.z.2 with ⟨rfl,M⟩|⟨g,cap,cur,rfl,hb',hh,M,-,-,ht⟩;exact⟨none,0,by rw[lM,M],.inl (by rw[lM];exact M)⟩;refine⟨_,cap,by rw[lM],.inr ⟨g,0,rfl,λj I=>?_⟩⟩;rw[lM]at I;have⟨h1,h2⟩:=(λr hr=>h.el r hr W λ_ _ _=>rfl) _ (gM I);have eg:U (sl.map SdR.s) j qg=sl[j].s:=by rw[gD,bK,gE I];rfl
 have hc:∀q,q<2->eQ W (az g (j*2+q))=(scs sl[j])[q]?:=λq hq=>by
  rw[eI hh,<-dY,<-cL (by omega:j*2+q<E sl*2),ht,qJl scs (λ_=>rfl),show(j*2+q) / 2=j by omega,show(j*2+q) % 2=q by omega,gE I];rfl
 rw[eg,cU];have⟨a0,c0,e0,O⟩:=h1;have⟨a1,c1,e1,V⟩:=h2;refine⟨a0,c0,a1,c1,?_,?_,⟨a0,c0,rfl,O⟩,⟨a1,c1,rfl,V⟩⟩;rw[<-e0];exact hc 0 Oo;rw[<-e1];exact hc 1 Oo
end
section
variable {v x:Int}{o p:LI}{tl:List TbV}{us:LV}{B i j k m:Nat}{t:TbV}{W w W0:oX}{α:Type}{l:List α}
def Tryz.infoSd:(Tryz.prog.info? 161).map (λi=>(i.zero,i.size,i.bytes))=Q (Q (aQ #[sn,sn]),2,48):=Kl
def qDl{x y t}:∀j u,[x,y][j]?=Q u->(S w (eZ #[x,y] t)).cell? (((az (J w.1) 0):Addr).add j)=Q u:=by
 intro j u I;match j,I with
 |0,I=>simp at I;subst I;simp[Addr.add]
 |1,I=>simp at I;subst I;simp[Addr.add]
def qJG{v0 v1 s}(M:oW W B 3 1 v0 (E s.m) (s.m.map ai))(hb:Bl W0 W)(h1:RSx (λu=>∀k,u.ownBlock=Q k->B<=k) W0 W v1 us s.x)(hv:∀k,v1.ownBlock=Q k->B<=k):ElS B W ⟨v0,v1,s⟩:=λW' I=>by
 refine⟨qN (qD M λg hg=>I g (M.lt g hg).1 (M.lt g hg).2),?_⟩;obtain⟨⟨a,cap,rfl,hc,hq⟩,-,O⟩:=h1;refine⟨a,cap,rfl,?_⟩;rcases hq with hq|⟨b,o,rfl,hq⟩;exact .inl hq;refine .inr ⟨b,o,rfl,λj V=>?_⟩;have⟨⟨⟨a2,c2,e2,K⟩,h3⟩,h4⟩:=O j V;refine⟨U us j _,?_,⟨a2,c2,e2,?_⟩,h3⟩;exact(bF (I b (hv b rfl) (bL W _ (hq j V)))).trans (hq j V);rcases K with K|⟨b2,o2,rfl,K⟩;exact .inl K;refine .inr ⟨b2,o2,rfl,λi hi=>?_⟩;have h5:=(hb.cell (bL _ _ (K i hi))).trans (K i hi);exact(bF (I b2 (h4 _ (by rw[e2];rfl)) (bL W _ h5))).trans h5
def RQ.rsx{v ls}(h:RQ W B v us ls):RSx (λu=>∀k,u.ownBlock=Q k->B<=k) W W v us ls:=
 ⟨h.rs.sl,h.rs.C,λi hi=>⟨h.rs.l i hi,λk I=>((h.l i hi).lt k I).1⟩⟩
def Jh w vt vo tl o(h:ITs w vt tl)(ho:IS w vo o)(hl:E tl<=1000)(l1:E o<=1000)(i4:∀t∈tl,TvJ t):
 Cl 76 #[vt,vo] w λe w'=>∃v,e=rE v/\ISds w' v (tl.map (sdT o))/\Bl w w':=by
 have⟨iS,hj,l3,l4,l5⟩:=aX Tryz.infoIS;have⟨iD,hd,l6,l7,l8⟩:=aX Tryz.infoSd;obtain⟨l9,ct,rfl,hc⟩:=h;have HO:=ay ho;obtain⟨ao,co,rfl,-⟩:=ho;have b8:Hh (∀j,j<E tl->TvJ (U tl j qA)):=λj hj=>i4 _ (by rw[gD,gE hj];exact gM _);have b9:Hh (∀j,j<E tl->tl.take (j+1)=tl.take j++[U tl j qA]):=λj hj=>by
  rw[tA,gE hj,gD,gE hj];rfl
 have e9:Hh (tl.take (E tl)=tl):=tL ..;have f7:Hh (∀j,j<=E tl->E (tl.take j)=j):=λj hj=>by rw[bZ];omega
 have HC:Hh (∀W,Bl w W->∀j,j<E tl->∃b oo,l9=Q (az b oo)/\TabAt W b (oo+j*3) (U tl j qA)):=λW hW j hj=>by
  rcases hc with h0|⟨b,oo,rfl,h⟩;omega;exact⟨b,oo,rfl,(h j hj).zz hW⟩
 have⟨n,hn⟩:=Ex (E tl);rw[<-hn]at hl b8 b9 e9 f7 HC |-;clear hn hc i4;have⟨no,c7⟩:=Ex (E o);change Hh _ at c7;rw[<-c7]at l1 |-;rw[<-c7]at HO;have⟨W1,f8⟩:=Ex (S w (eZ #[] 161));have f9:Hh (Bl w W1/\SDs W1 (J w.1) (sZ (J w.1) 0 0 0) []):=(by
  rw[f8];exact⟨aK,oM w _ 0 eA Dd rfl,λr hr=>by cases hr⟩)
 go_enter func76,ntmps76;go_upto_region 2 with fail;rw[<-f8];clear f8;go_wp2;go_loopw [5,15] (λu t wr=>∃(j:Nat) (vs:oV),j<=n/\t=ai j/\vs=u/\Hh (∃sl:List SdR,sl.map SdR.s=(tl.take j).map (sdT o)/\Bl w wr/\SDs wr (J w.1) vs sl)) (λ_ t _=>n-(intOf t).toNat);exact⟨0,_,eC,rfl,rfl,ay ⟨[],rfl,f9.1,f9.2⟩⟩;clear f9;obtain⟨j,vs,m0,rfl,rfl,HT⟩:=hrel;have⟨sl,i6,hB,hS⟩:=HT.o;have HB:=ay hB;change Hh _ at i6 hS;clear HT hB;by_cases g4:j<n
 .have i1:=aV g4;have⟨b,oo,ea,v0,v1,v2,c0,c1,c2,hI⟩:=HC _ HB j g4;subst ea;have a3:E sl=j:=by have:=congrArg List.length i6;rwa[lM,lM,f7.o j m0]at this
  have m1:=ay (b9 j g4);have HJ:=ay (b8 j g4);generalize U tl j qA=tb at *;have⟨W2,c9⟩:=Ex (S wr (eZ #[v0,v1,v2] 58));have d3:Bl wr W2:=by rw[c9];exact(bJ _ _).alloc (nR _) _
  have g5:Hh (TX W2 (J wr.1) v0 v1 v2):=(by rw[c9];exact TX.zw _ _ _ _);have g7:=ay (hI.zz d3);have g9:=ay d3;obtain⟨a0,k0,e0,-⟩:=hI.e;obtain⟨a1,k1,e1,-⟩:=hI.x;obtain⟨a2,k2,e2,-⟩:=hI.k;subst e0 e1 e2;have h4:=ay (qBX o (HO.o.zz (bt HB d3)) (O1 c7.o) g7.o.e (O1 HJ.o.e));have d0:=g5.o.c0;have m2:=HJ.o.n;have n9:=HJ.o.e;have i7:Hh (E (shr o tb.e)<=no):=ay (by rw[c7.o];exact j7 _ _);have⟨I,h5⟩:=Ex (shr o tb.e);have m3:=ay h5;rw[<-h5]at h4 i7;have n8:=i7.o;clear h5 d3 hI HC b8 b9;go_upto_region 5 with fail;rw[<-c9];clear c9 c0 c1 c2;go_wp2_with fail;apply h4.o.mono;rintro e w3 ⟨g3,c3,rfl,i8,d4⟩;have i9:=ay (bt g9 d4);have a4:=ay (g5.o.zz d4);have h6:=ay (g7.o.zz d4);have h7:=ay (qE i8 g9.o.size);clear i8 d4 h4 d0 g5 g7 g9;have⟨W4,h8⟩:=Ex (S w3 (eZ #[] 24));have d5:Hh (Bl w3 W4/\RQ W4 (J w3.1) (sZ (J w3.1) 0 0 0) [] []):=ay (by
   rw[h8];exact⟨aK,oM _ _ 0 eA Dd rfl,rfl,λi hi=>by simp at hi,λi j _ hj=>by simp at hj⟩)
  have KV:Hh (∀W u i,Bl w3 W->i<E tb.x->IS W u (U tb.x i [])->Cl 103 #[aQ #[Z a0 (E tb.e) k0,Z a1 (E tb.x) k1,Z a2 (E tb.k) k2],u,sZ g3 0 (E I) c3] W λe w'=>∃v,e=rE v/\oW w' (J W.1) 3 1 v (E (qQ tb.e I (U tb.x i []))) ((qQ tb.e I (U tb.x i [])).map ai)/\Bl W w'):=ay λW u i hW hi hu=>
   UO W u I ⟨_,_,rfl⟩ ⟨_,_,rfl⟩ (h6.o.zz hW).e hu (qN (qB h7 hW)) Oo (HJ.o.C _ (by rw[gD,gE hi];exact gM _)) Oo
  have HP:Hh (∀i,i<E tb.x->(tb.x.take (i+1)).map (qQ tb.e I)=(tb.x.take i).map (qQ tb.e I)++[qQ tb.e I (U tb.x i [])]):=ay λi hi=>by
   rw[tA,gE hi,gD,gE hi,mA];rfl
  have d6:Hh (∀i,i<=E tb.x->E ((tb.x.take i).map (qQ tb.e I))=i):=ay λi hi=>by rw[lM,bZ];omega
  have h9:Hh ((tb.x.take (E tb.x)).map (qQ tb.e I)=tb.x.map (qQ tb.e I)):=ay (by rw[tL]);have i0:Hh (∀W,Bl w3 W->∀i,i<E tb.x->∃(b o:Nat) (u:oV),a1=Q (az b o)/\eQ W (az b (o+i))=Q u/\IS W u (U tb.x i [])):=ay λW hW i hi=>by
   have⟨a',c',e,hh⟩:=(h6.o.zz hW).x;simp only[vI]at e;obtain⟨rfl,-,-⟩:=e;rcases hh with h0|⟨b,o,rfl,hq⟩;omega;have⟨u,h1,h2⟩:=hq i hi;exact⟨b,o,u,rfl,h1,h2⟩
  have HM:Hh (∀r∈tb.x.map (qQ tb.e I),E r<=1099511627776):=ay λr hr=>by
   obtain⟨q,-,rfl⟩:=cC.1 hr;rw[vZ];omega
  have⟨nr,e4⟩:=Ex (E tb.x);rw[<-e4]at KV HP d6 h9 i0 m2 a4 |-;clear e4 h6;generalize E tb.e=l0,E tb.k=l2 at *;have d1:=a4.o.c1;go_upto_region 7 with fail;rw[<-h8];clear h8;have d1:=(a4.o.zz d5.1).c1;generalize wr=wo at *;go_wp2_with fail;clear d1;go_loopw [9,27] (λu t wr=>∃(i:Nat) (vr:oV),i<=nr/\t=ai i/\vr=u/\Hh (∃uo,Bl w3 wr/\RQ wr (J w3.1) vr uo ((tb.x.take i).map (qQ tb.e I)))) (λ_ t _=>nr-(intOf t).toNat);exact⟨0,_,eC,rfl,rfl,ay ⟨[],d5.1,d5.2⟩⟩;clear d5;obtain⟨i,vr,m4,rfl,rfl,HT⟩:=hrel;have⟨uo,hB,hQ⟩:=HT.o;have K:=ay hB;have HQ:=ay hQ;clear HT hB hQ;by_cases a6:i<nr
  .have i2:(i:Int)<nr:=Oo;have⟨b5,o5,u5,ea,e5,j0⟩:=i0 _ K i a6;subst ea;have j1:=ay (KV _ _ i K a6 j0);have m5:=ay (HP i a6);have d7:=d6 i m4;have d8:=ay (a4.o.zz K);have d0:=d8.o.c0;have d1:=d8.o.c1;have d2:=d8.o.c2;obtain⟨au,cu,rfl,-⟩:=j0;generalize E (U tb.x i [])=lr,qQ tb.e I (U tb.x i [])=pr at *;go_wp2_with fail;apply j1.o.mono;rintro e w5 ⟨v5,rfl,d9,e3⟩;have j2:=ay (HQ.o.zz e3);have m6:=ay (bt K e3);have a8:=K.o.size;have m7:=ay (qE d9 a8);have m8:Hh (∀q,q<E ((tb.x.take i).map (qQ tb.e I))->∀g,(U uo q undef).ownBlock=Q g->v5.ownBlock≠Q g):=ay λq hq g h1 h2=>by
    have a1:=((HQ.o.l q hq).lt g h1).2;have a2:=(d9.lt g h2).1;omega
   have hs5:=bM a8 e3.size;have⟨a5,k5,m9⟩:=qt d9;subst m9;clear d9 e3 j1 e5 K d0 d1 d2 d8 a8
   have j4:=ay (by have:=j2.o.z;rwa[d7]at this);go_wp2_with (at_builtin;refine apL rfl rfl underlying23 Tryz.infoIS (j4.o.alloc _) rfl rfl (qH _ _ _) Sy ?_;intro g6 n3 w6 a9 M j5 j6);have HN:Hh (∃n4,Bl w3 w6/\RQ w6 (J w3.1) (sZ g6 0 (i+1) n3) n4 ((tb.x.take (i+1)).map (qQ tb.e I))):=ay ⟨_,(m6.o.alloc hs5 _).grown M Sy (λq hq=>(j4.o.lt q hq).1),by rw[m5.o];exact j2.o.P m7 m8 (by rw[d7];exact a9) M⟩;clear a9 M j5 j6;go_roundw;exact⟨i+1,_,Oo,Gg,rfl,HN⟩;exact Im
  obtain rfl:i=nr:=Oo;have i2:=aY i;have d7:=d6 i eA;rw[h9.o]at HQ d7;clear i0 KV HP d6 h9 a4;have KS:=ay (ZQ _ _ _ _ (tb.x.map (qQ _ I)) eA (bJ _ _) HQ.o.rsx Oo HM);have o3:Hh (E (srt (tb.x.map (qQ tb.e I)))<=10000):=ay (by have:=yK _ (tb.x.map (qQ tb.e I)) eA;omega);have HE:Hh (∀w7 v7 b1,RSx (λu=>∀k,u.ownBlock=Q k->J w3.1<=k) wr w7 v7 b1 (srt (tb.x.map (qQ tb.e I)))->qG7 wr vr v7->Bl wr w7->ElS (J wo.1) w7 ⟨sZ g3 0 (E I) c3,v7,sdT o tb⟩/\Bl wo w7):=ay λw7 v7 b1 h1 h2 h3=>by
   have n5:sdT o tb=⟨I,srt (tb.x.map (qQ tb.e I))⟩:=by unfold sdT;rw[<-m3.o]
   rw[n5];have hle:=i9.o.size;refine⟨qJG (qB (qB h7.o K.o) h3) h3 ⟨h1.sl,h1.C,λi hi=>⟨(h1.l i hi).1,λk hk=>bM hle ((h1.l i hi).2 k hk)⟩⟩ (λk hk=>?_),bt i9.o (bt K.o h3)⟩;rcases h2 with h2|h2;rw[h2]at hk;exact bM hle (HQ.o.z.lt k hk).1;exact bM hle (bM K.o.size (h2 k hk))
  generalize hR:srt (tb.x.map (qQ tb.e I))=R at *;clear hR HM HQ K h7;go_wp2_with fail;apply KS.o.mono;rintro e w7 ⟨v7,b1,rfl,e6,k3,k4⟩;have V:=ay (HE _ _ _ e6 k3 k4);obtain⟨⟨a7,k7,e7,-,-⟩,-,-⟩:=e6;subst e7;have n6:=bM HB.o.size V.2.size
  have i3:=ay (by have:=(hS.o.zz V.2).z;rwa[a3]at this);clear k4 KS HE k3;generalize E R=lR,E I=lsv at *;go_wp2_with (at_builtin;refine wpList_append_lies _ rfl _ _ 118 rfl (J w.1) 161 iD (aQ #[sn,sn]) 2 48 underlying118 hd l6 l7 l8 rfl Dd vs _ _ rfl (i3.o.alloc _) (az _ 0) 1 1 [sZ g3 0 lsv c3,Z a7 lR k7] rfl rfl (qDl) (λu hu=>by simp at hu;rcases hu with rfl|rfl <;> rfl) Dd Um Oo Sy _ rfl ?_;intro g8 n7 w8 b7 O e8 k8);have HN:Hh (∃k9:List SdR,k9.map SdR.s=(tl.take (j+1)).map (sdT o)/\Bl w w8/\SDs w8 (J w.1) (sZ g8 0 (j+1) n7) k9):=ay ⟨sl++[⟨sZ g3 0 lsv c3,Z a7 lR k7,sdT o tb⟩],by rw[m1.o,mA,mA,i6.o];rfl,((bt HB V.2).alloc n6 _).grown O Sy (λq hq=>(i3.o.lt q hq).1),by
   have:=hS.o.push V.o.2 V.o.1 O (by rw[a3];exact b7) e8;rwa[a3]at this⟩
  clear b7 O e8 k8 V i3;go_roundw;exact⟨j+1,_,Oo,Gg,rfl,HN⟩;exact Im
 obtain rfl:j=n:=Oo;have i1:=aY j;have HF:Hh (ISds wr vs (tl.map (sdT o))/\Bl w wr):=ay ⟨by have:=hS.o.isds;rwa[i6.o,e9.o]at this,HB⟩;clear hS HB i6 HC b8 b9 e9 f7;go_wp2;go_ret;exact⟨_,rfl,HF.1,HF.2⟩
def jc(tl:List TbV)(o:LI):List Sd:=(tl.map (sdT o)).map (sdO o)
def nxJ(tl:List TbV)(o:LI):LI->LI:=xy (jc tl o)
def Qd tl o:∀s∈jc tl o,s.Ok:=λs hs=>by
 obtain⟨m,I,rfl⟩:=cC.1 hs;obtain⟨t,-,rfl⟩:=cC.1 I;exact qEx (uI o t)
def xd(tl:List TbV):Bool:=tl.any λt=>oD (E t.x=0)
def lvJ(tl:List TbV)(o:LI)(j:Nat):LL:=if xd tl then [] else yo (nxJ tl o) [] j
def qGE tl o j:lvJ tl o (j+1)=(lvJ tl o j).flatMap λq=>(nxJ tl o q).map λv=>q++[v]:=by
 unfold lvJ;by_cases h:xd tl;rw[fE h,fE h];rfl;rw[fF h,fF h];rfl
def smJ(tl:List TbV)(o:LI)(j:Nat):Bool:=(range j).all λi=>oD (E (lvJ tl o (i+1))<=10000)
def viJ(tl:List TbV)(o:LI)(j:Nat):Nat:=((range j).map λi=>E (lvJ tl o (i+1))).sum
def YO tl o j:smJ tl o (j+1)=(smJ tl o j&&oD (E (lvJ tl o (j+1))<=10000)):=by
 unfold smJ;rw[dQ,all_append];simp
def qAq tl o j:viJ tl o (j+1)=viJ tl o j+E (lvJ tl o (j+1)):=by
 unfold viJ;rw[dQ,mA,sum_append];simp
def U6(hjk:j<k)(h:¬E (lvJ tl o (j+1))<=10000):smJ tl o k=false:=by
 unfold smJ;rw[all_eq_false];exact⟨j,cJ.2 hjk,by simpa using h⟩
def qAr:∀{j:Nat},smJ tl o j->viJ tl o j<=j*10000
 |0,_=>eA
 |j+1,h=>by
  rw[YO,bV,dE]at h;rw[qAq];have:=qAr h.1;omega
def qAs tl o:E (lvJ tl o 0)<=1:=by
 unfold lvJ;by_cases h:xd tl;rw[fE h];exact eC;rw[fF h];exact eA
def qEy:∀{j:Nat},smJ tl o j->E (lvJ tl o j)<=10000
 |0,_=>bM (qAs tl o) Dd
 |j+1,h=>by
  rw[YO,bV,dE]at h;exact h.2
def jx:∀q∈lvJ tl o j,E q=j:=λq hq=>by
 unfold lvJ at hq;by_cases h:xd tl;rw[fE h]at hq;cases hq
 rw[fF h]at hq;have:=Qy _ _ j q hq;simpa using this
def qAt o:Hld (jc tl o) []:=λs _=>.inl (by unfold prt;rfl)
def qHn:∀q∈lvJ tl o j,Hld (jc tl o) q:=λq hq=>by
 unfold lvJ at hq;by_cases h:xd tl;rw[fE h]at hq;cases hq
 rw[fF h]at hq;exact YN (Qd _ o) (qAt o) j q hq
def qJD R q k n:E (VA R q k n)<=n:=by
 unfold VA;rw[lM];exact qBU _ _
def qEz m R q:E (nN m R q)<=E R:=by
 unfold nN;by_cases h:E q<m;rw[fE h];have:=qJD R q (kA R q) (nA R q);have I:=(VH (R:=R) (q:=q)).le;omega;rw[fF h];exact eC
def Qz o t:E (sdT o t).x<=E t.x:=by
 have:=yK _ (t.x.map (qQ t.e (shr o t.e))) eA;rwa[lM]at this
def qHo(I:∀t∈tl,TvJ t)p:E (nxJ tl o p)<=10000:=by
 unfold nxJ xy;cases hf:(jc tl o).find? (λs=>s.H (E p))with
 |none=>exact eC
 |some f=>
  have M:=mem_of_find?_eq_some hf;unfold jc at M;obtain⟨m,K,rfl⟩:=cC.1 M;obtain⟨t,O,rfl⟩:=cC.1 K;show E (uH (jc tl o) (sdO o (sdT o t)) p)<=10000;unfold uH;refine bM (dH _ _) (bM (qEz _ _ _) (bM (Qz o t) (I t O).n))
def ur{vs}(hi:i<E o):qV o (shr o vs) i=oD (U o i 0∈vs):=by
 unfold qV;by_cases h:U o i 0∈vs;rw[fD h];refine fD (cK.2 ⟨?_,fD h⟩);rw[gD,gE hi];exact gM hi;rw[fC h];exact fC λI=>h (uA I)
def qHp H p:E (prt H p)=E ((range (E p)).filter H):=by
 unfold prt;rw[lM]
def Zs{l:LI}{q}:∀k,k<=E l->E ((l.take k).filter q)=E ((range k).filter λi=>q (U l i 0))
 |0,_=>rfl
 |k+1,h=>by
  have I:=Zs (l:=l) (q:=q) k Oo;rw[dQ,cZ,lA,<-I,qy (show k<E l by omega),cZ,lA];congr 1;by_cases e:q (U l k 0);simp only[filter_cons,e,nI,filter_nil,cQ,length_nil];simp only[filter_cons,e,rO,filter_nil,length_nil,nG]
def qHq{vs}(I:E p<=E o):E (prt (qV o (shr o vs)) p)=E ((o.take (E p)).filter λx=>oD (x∈vs)):=by
 rw[qHp,Zs (E p) I];congr 1;refine filter_congr λi hi=>?_;exact ur (O1 (cJ.1 hi))
def qJE{vs}(I:E p<E o):E (prt (qV o (shr o vs)) p)<=E (shr o vs)/\(qV o (shr o vs) (E p)->E (prt (qV o (shr o vs)) p)<E (shr o vs)):=by
 have e:o.take (E p+1)++o.drop (E p+1)=o:=tD _ _;have hs:E (shr o vs)=E ((o.take (E p)).filter λx=>oD (x∈vs))+(if U o (E p) 0∈vs then 1 else 0)+E ((o.drop (E p+1)).filter λx=>oD (x∈vs)):=by
  unfold shr;conv=>lhs;rw[<-e]
  rw[cZ,lA,qy I,cZ,lA];congr 1;congr 1;by_cases h:U o (E p) 0∈vs;rw[fE h];simp only[filter_cons,fD h,nI,filter_nil,cQ,length_nil];rw[fF h];simp only[filter_cons,fC h,filter_nil,length_nil,nG,rO]
 rw[qHq Oo,hs];refine⟨Oo,λh=>?_⟩;rw[ur I,dE]at h;rw[fE h];omega
def YP(tl:List TbV)(o:LI):Prop:=∀i,i<E o->∃t∈tl,U o i 0∈t.e
def qJk(h:YP tl o)(hi:i<E o):zo o (tl.map (sdT o)) i<E (tl.map (sdT o)):=by
 have⟨t,I,K⟩:=h i hi;exact qHt ⟨sdT o t,dF I,by show qV o (shr o t.e) i=true;rw[ur hi];exact fD K⟩
def qp(tl:List TbV)(i:Nat):Bool:=tl.any λt=>oD ((i:Int)∈t.e)
def vrJ(tl:List TbV):LI:=plc (qp tl) 6
def XV tl:E (vrJ tl)<=6:=xq _ _
def qAu p k:(plc p k).Pairwise (·< ·):=by
 unfold plc;refine pairwise_map.2 ((pairwise_lt_range.filter _).imp λ{a b} h=>?_);show(a:Int)<b;omega
def qE0 tl:(vrJ tl).Nodup:=(qAu _ _).imp λ{a b} h=>Oo
def y7{p}:x∈plc p k↔∃i,i<k/\p i/\(i:Int)=x:=by
 unfold plc;rw[cC];constructor;rintro⟨i,hi,rfl⟩;have⟨I,K⟩:=cK.1 hi;exact⟨i,cJ.1 I,K,rfl⟩;rintro⟨i,I,K,rfl⟩;exact⟨i,cK.2 ⟨cJ.2 I,K⟩,rfl⟩
def qCs:∀{vr o:LI},vr.Nodup->(∀x∈vr,x∈o)->E o=E vr->vr.Perm o
 |[],o,_,_,hl=>by
  have:=dV.1 hl;rw[this]
 |a::r,o,hn,hs,hl=>by
  rw[nodup_cons]at hn;have I:=hs a cY;exact((qCs hn.2 (λx K=>(mem_erase_of_ne (λe=>hn.1 (by rw[<-e];exact K))).2 (hs x (mC _ K))) (by rw[length_erase_of_mem I,hl];simp)).cons a).trans (perm_cons_erase I).symm
def jd(tl:List TbV)(o:LI):Bool:=oD (E o=E (vrJ tl))&&Z3 (vrJ tl) o
def xp:jd tl o↔(vrJ tl).Perm o:=by
 unfold jd;rw[bV,dE];constructor;rintro⟨M,I⟩;refine qCs (qE0 tl) (λx K=>?_) M;unfold Z3 at I;rw[aT]at I;exact aN (I x K);intro h;refine⟨h.length_eq.symm,?_⟩;unfold Z3;rw[aT];exact λx K=>fD (h.subset K)
def YQ(h:jd tl o):YP tl o:=λi hi=>by
 have K:U o i 0∈vrJ tl:=(xp.1 h).symm.subset (by rw[gD,gE hi];exact gM hi);obtain⟨k,-,I,M⟩:=y7.1 K;unfold qp at I;have⟨t,O,V⟩:=any_eq_true.1 I;exact⟨t,O,by rw[<-M];exact aN V⟩
def qW(t:TbV):Bool:=ql t.e t.x t.k
def XW(h:qW t):TvJ t:=by
 have⟨I,K,M⟩:=qL h;exact⟨xz I,K,M⟩
def okJ(tl:List TbV)(o:LI):Bool:=oD (E tl<=8)&&tl.all qW&&jd tl o
def qO(tl:List TbV)(o:LI):LL:=if okJ tl o&&smJ tl o (E o) then lvJ tl o (E o) else []
def zK(tl:List TbV)(o:LI):Int:=if okJ tl o&&smJ tl o (E o) then (viJ tl o (E o):Int) else -1
def qHr(h:okJ tl o=nF):qO tl o=[]/\zK tl o=-1:=by
 unfold qO zK;rw[h];exact⟨rfl,rfl⟩
def vY(h:okJ tl o):qO tl o=(if smJ tl o (E o) then lvJ tl o (E o) else [])/\zK tl o=(if smJ tl o (E o) then (viJ tl o (E o):Int) else -1):=by
 unfold qO zK;rw[h,dG];exact⟨rfl,rfl⟩
def qE1(I:j<E tl)i:qp (tl.take (j+1)) i=(qp (tl.take j) i||oD ((i:Int)∈(U tl j qA).e)):=by
 unfold qp;rw[tA,gE I,any_append,gD,gE I];simp
def y8:E (qO tl o)<=10000/\∀r∈qO tl o,E r<=6:=by
 unfold qO;by_cases h:okJ tl o&&smJ tl o (E o);rw[fE h];rw[bV]at h;have I:=h.1;unfold okJ at I;rw[bV]at I;have M:=(xp.1 I.2).length_eq;have O:=XV tl;exact⟨qEy h.2,λr K=>by rw[jx r K];omega⟩;rw[fF h];exact⟨Ss,λr K=>by cases K⟩
def Sd.D.pre{s:Sd}{q}(h:s.D q)(I:p <+:q):s.D p:=by
 rcases h with rfl|⟨r,K,h⟩;exact .inl (prefix_nil.1 I);exact .inr ⟨r,K,I.trans h⟩
def Hld.pre{I}(h:Hld I (p++[v])):Hld I p:=λs hs=>by
 have K:=h s hs;rw[kO]at K;exact K.pre (prefix_append _ _)
def qHy{I}(K:∀s∈I,s.Ok){g}(M:g∈I)(O:g.H (E p))(h:Hld I (p++[v])):v∈xy I p:=by
 have V:=h.pre;have key:=λs hs hs1=>by
  have h1:=h s hs;rw[kO,fE hs1]at h1;exact((K s hs).tm.mem _ (V s hs) v).2 h1
 rw[XU K M V O];unfold uH;exact cK.2 ⟨key g M O,(kP _ _ _).2 key⟩
def qCu{I}(K:∀s∈I,s.Ok):∀n,(∀j,j<n->∃g∈I,g.H j)->∀q:LI,q∈yo (xy I) [] n↔E q=n/\Hld I q
 |0,_,q=>by
  show q∈[[]]↔_;rw[cI];refine⟨?_,λh=>eq_nil_of_length_eq_zero h.1⟩;rintro rfl;exact⟨rfl,λs _=>.inl (by unfold prt;rfl)⟩
 |n+1,hH,q=>by
  have ih:=qCu K n λj hj=>hH j Oo;show q∈(yo (xy I) [] n).flatMap (λq=>(xy I q).map λv=>q++[v])↔_;rw[mem_flatMap];constructor;rintro⟨p,hp,hq⟩;obtain⟨v,hv,rfl⟩:=cC.1 hq;have⟨M,O⟩:=(ih p).1 hp;exact⟨by rw[lA,M];rfl,O.snoc K hv⟩;rintro⟨M,O⟩;rcases eq_nil_or_concat q with rfl|⟨p,v,rfl⟩;simp at M;rw[concat_eq_append]at M O |-;rw[lA,lS]at M;have V:E p=n:=Oo;have⟨g,hg,a3⟩:=hH n Oo;exact⟨p,(ih p).2 ⟨V,O.pre⟩,cC.2 ⟨v,qHy K hg (by rw[V];exact a3) O,rfl⟩⟩
def qCv:∀{a b:LI},E a=E b->cmpL a b<0->∀x y,cmpL (a++[x]) (b++[y])<0
 |[],[],_,h,_,_=>by simp[cmpL]at h
 |a::l,b::l2,hl,h,x,y=>by
  simp only[cQ,Nat.add_right_cancel_iff]at hl;rw[cons_append,cons_append];unfold cmpL at h |-;split at h
  .rename_i h1;rw[fE h1];exact h
  rename_i h1;rw[fF h1];split at h
  .rename_i h2;rw[fE h2];exact h
  rename_i h2;rw[fF h2];exact qCv hl h x y
def qAx:∀(a:LI) {x y:Int},x<y->cmpL (a++[x]) (a++[y])<0
 |[],x,y,h=>by simp[cmpL,h]
 |a::l,x,y,h=>by
  rw[cons_append,cons_append];unfold cmpL;rw[fF Oo,fF Oo];exact qAx l h
def qE4{I}(K:∀s∈I,s.Ok):∀n,SL (yo (xy I) [] n)
 |0=>pairwise_singleton _ _
 |n+1=>by
  show((yo (xy I) [] n).flatMap λq=>(xy I q).map λv=>q++[v]).Pairwise _;refine pairwise_flatMap.2 ⟨λq hq=>?_,?_⟩;exact pairwise_map.2 ((qGC K (YN K (λs _=>.inl (by unfold prt;rfl)) n q hq)).imp λh=>qAx q h);refine List.Pairwise.imp_of_mem (λ{a b} ha hb h x hx y hy=>?_) (qE4 K n);obtain⟨u,-,rfl⟩:=cC.1 hx;obtain⟨v,-,rfl⟩:=cC.1 hy;have V:=Qy _ _ n a ha;have lb:=Qy _ _ n b hb;exact qCv Oo h u v
def gdR{d}(h:i<E l):U l i d=l[i]:=by rw[gD,gE h,dI]
def qz{d}(h:i<E l):U l i d∈l:=by rw[gdR h];exact gM h
def Qi(h:o.Pairwise (·< ·))f(hv:v∈o):vlF o (o.map f) v=f v:=by
 obtain⟨i,hi,rfl⟩:=gO hv;have e:=jL o (o.map f) i h hi;rw[gdR hi,gdR (by rw[lM];exact hi),fB]at e;exact e
def US{vs}(h:o.Pairwise (·< ·))(hs:∀x∈vs,x∈o)f:qQ o vs (o.map f)=vs.map f:=cV λv hv=>Qi h f (hs v hv)
def jy{r}(h:o.Pairwise (·< ·))(hl:E r=E o):o.map (vlF o r)=r:=by
 refine ext_getElem (by rw[lM,hl]) λi K I=>?_;rw[fB];have hi:i<E o:=Oo;have e:=jL o r i h hi;rw[gdR hi,gdR I]at e;exact e
def UT{vs}(ho:o.Pairwise (·< ·))(hv:vs.Pairwise (·< ·))(hs:∀x∈vs,x∈o):shr o vs=vs:=
 J2 (Z9 ho) hv λx=>⟨uA,λh=>cK.2 ⟨hs x h,fD h⟩⟩
def qIA{vs}(ho:o.Pairwise (·< ·))(I:E p=E o):prt (qV o vs) p=qQ o (shr o vs) p:=by
 rw[<-qC6 ho];unfold prt atP plc;rw[I,map_map];rfl
structure qDx(tl:List TbV)(o:LI):Prop where
 asc:o.Pairwise (·< ·)
 cov:YP tl o
 e:∀t∈tl,t.e.Pairwise (·< ·)/\∀x∈t.e,x∈o
 C:∀t∈tl,∀r∈t.x,E r=E t.e
def qFA(ho:o.Pairwise (·< ·))(hv:t.e.Pairwise (·< ·))(hs:∀x∈t.e,x∈o)(hl:∀r∈t.x,E r=E t.e)(O:0<E t.x)(hp:E p=E o):
 (sdO o (sdT o t)).D (prt (sdO o (sdT o t)).H p)↔qQ o t.e p∈t.x:=by
 have e:prt (sdO o (sdT o t)).H p=qQ o t.e p:=by
  show prt (qV o (shr o t.e)) p=_;rw[qIA ho hp,UT ho hv hs,UT ho hv hs]
 have V:∀r,r∈(sdO o (sdT o t)).rs↔r∈t.x:=λr=>by
  show r∈srt (t.x.map (qQ t.e (shr o t.e)))↔_;rw[(zQ _ _ eA).2,UT ho hv hs,cC];constructor;rintro⟨s,I,rfl⟩;rw[show qQ t.e t.e s=s from jy hv (hl s I)];exact I
  exact λI=>⟨r,I,jy hv (hl r I)⟩
 rw[e];have K:E (qQ o t.e p)=E t.e:=vZ;constructor
 .rintro (I|⟨r,I,h2⟩);have M:=gM O;have h4:=hl _ M;rw[<-K,I]at h4;rw[I,<-eq_nil_of_length_eq_zero h4];exact M;have M:=(V r).1 I;rw[h2.eq_of_length (by rw[K,hl r M])];exact M
 exact λI=>.inr ⟨_,(V _).2 I,prefix_rfl⟩
def qC2(h:qDx tl o)(p:LI):p∈lvJ tl o (E o)↔E p=E o/\∀t∈tl,qQ o t.e p∈t.x:=by
 have hL:=qCu (Qd tl o) (E o) (λj hj=>by
  have⟨t,I,M⟩:=h.cov j hj;refine⟨sdO o _,dF (dF I),?_⟩;show qV o (shr o t.e) j=true;rw[ur hj];exact fD M) p
 unfold lvJ nxJ;by_cases O:xd tl=true;rw[fE O];unfold xd at O;have⟨t,I,M⟩:=any_eq_true.1 O;have h2:=dV.1 (aN M);refine⟨(λV=>by cases V),λV=>?_⟩;have h4:=V.2 t I;rw[h2]at h4;cases h4
 rw[fF O,hL];refine and_congr_right λhp=>?_;have K:∀t∈tl,0<E t.x:=λt I=>by
  refine Nat.pos_of_ne_zero λe=>O ?_;unfold xd;exact any_eq_true.2 ⟨t,I,fD e⟩
 constructor;exact λM t I=>(qFA h.asc (h.e t I).1 (h.e t I).2 (h.C t I) (K t I) hp).1 (M _ (dF (dF I)));intro M s hs;unfold jc at hs;rw[map_map]at hs;obtain⟨t,I,rfl⟩:=cC.1 hs;exact(qFA h.asc (h.e t I).1 (h.e t I).2 (h.C t I) (K t I) hp).2 (M t I)
def vz(h:qDx tl o)f:o.map f∈lvJ tl o (E o)↔∀t∈tl,t.e.map f∈t.x:=by
 rw[qC2 h];constructor;intro K t I;rw[<-US h.asc (h.e t I).2 f];exact K.2 t I;intro K;refine⟨lM _,λt I=>?_⟩;rw[US h.asc (h.e t I).2 f];exact K t I
def qIB:SL (lvJ tl o (E o)):=by
 unfold lvJ;split;exact iO;exact qE4 (Qd _ o) _
def Agr(bi bp r s:LI):Prop:=∀v,v∈bi->v∈bp->vlF bi r v=vlF bp s v
def qGc{par:NN}{B:Nat->LI}{R:Nat->LL}
 (hB:∀i,(B i).Pairwise (·< ·)) (hL:∀i,i<=m->∀r∈R i,E r=E (B i))
 (hp:∀i,i<m->i<par i/\par i<=m)
 (rip:∀j,j<m->∀l,j<l->l<=m->∀v,v∈B j->v∈B l->v∈B (par j))
 (c1:∀i,i<m->∀r∈R i,∃s∈R (par i),Agr (B i) (B (par i)) r s)
 (c2:∀i,i<m->∀s∈R (par i),∃r∈R i,Agr (B i) (B (par i)) r s):
 ∀n,n<=m->∀i,m-n<=i->i<=m->∀r∈R i,∃f:Int->Int,(B i).map f=r/\∀l,m-n<=l->l<=m->(B l).map f∈R l:=by
 intro n;induction n with
 |zero=>
  intro _ i h1 I r V;have e:i=m:=Oo;subst e;have e2:=jy (hB i) (hL i I r V);exact⟨_,e2,λl h3 h4=>by rw[show l=i by omega,e2];exact V⟩
 |succ n ih=>
  intro hn i a6 a4 r V;have⟨j,a7⟩:=Ex (m-(n+1));have e1:m-n=j+1:=Oo;rw[e1]at ih;have ih:=ih Oo;rw[<-a7]at a6 |-;have⟨p1,p2⟩:=hp j Oo;have key:∀(f:Int->Int) (O:LI),O∈R j->Agr (B j) (B (par j)) O ((B (par j)).map f)->∃g:Int->Int,(B j).map g=O/\∀l,j+1<=l->l<=m->(B l).map g=(B l).map f:=by
   intro f O K ha;refine⟨λv=>if v∈B j then vlF (B j) O v else f v,?_,λl h1 I=>cV λv hv=>?_⟩;exact Eq.trans (cV λv hv=>fE hv) (jy (hB j) (hL j Oo O K));by_cases e:v∈B j;have a5:=rip j Oo l Oo I v e hv;rw[fE e,ha v e a5,Qi (hB _) f a5];rw[fF e]
  by_cases e:i=j
  .subst e;have⟨s,hs,ha⟩:=c1 i Oo r V;have⟨f,a3,M⟩:=ih _ Oo p2 s hs;have⟨g,hg1,hg2⟩:=key f r V (by rw[a3];exact ha);refine⟨g,hg1,λl h1 I=>?_⟩;by_cases e2:l=i;rw[e2,hg1];exact V;rw[hg2 l Oo I];exact M l Oo I
  have⟨f,a3,M⟩:=ih i Oo a4 r V;have⟨O,K,ha⟩:=c2 j Oo _ (M _ Oo p2);have⟨g,hg1,hg2⟩:=key f O K ha;refine⟨g,by rw[hg2 i Oo a4,a3],λl h1 I=>?_⟩;by_cases e2:l=j;rw[e2,hg1];exact K;rw[hg2 l Oo I];exact M l Oo I
end
open Meet
variable {xv:Int}{p:LI}{bs xs:LV}{c c' g g' k n nT s B:Nat}{e t:TypeId}{v x y vp vt:oV}{A X Y w:oX}
def Qb(h:Below X.drew.1.size X.drew Y):Bl X Y:=⟨h.os,h.tape,h.output,h.size,h.block⟩
def qF3(I:k=J X.1)(h:Below (J (S X (eZ #[v] t)).1) (S X (eZ #[v] t)) Y):∀W,Bl Y W->∀j u,[v][j]?=Q u->W.cell? (((az k 0):Addr).add j)=Q u:=λ_ K=>YJ I (bt h K)
def qDf(I:k=J X.1)(h:Below (J (S X (eZ #[sn,sn] 180)).1) (S X (eZ #[sn,sn] 180)) Y):BrX Y k sn sn:=by
 subst I;exact(BrX.new X _ _).zz h
def grB(h:Bl A X)(ho:oW X (J A.1) e s v n xs)(I:X.grownBy Y v.ownBlock):Bl A Y:=h.grown I h.size λk K=>(ho.lt k K).1
def BrX.gr(h:BrX X k x y)(ho:oW X B e s v n xs)(I:e≠180)(K:X.grownBy Y v.ownBlock):BrX Y k x y:=(K.block k h.lt (own_ne ho ⟨_,h⟩ I)).trans h
def WiE.late(K:oW X (J A.1) 3 1 (sZ g 0 (E p+1) c) (E p+1) (p.map ai++[ai xv]))(M:oW X (J A.1) 183 1 (sZ g' 0 nT c') nT bs)(I:Bl A X):
 WiE A p xv nT bs (J X.1) (S X (eZ #[sZ g 0 (E p+1) c,sZ g' 0 nT c'] 180)) g c g' c':=
 ⟨BrX.new X _ _,by rw[mA];exact K.alloc _,M.alloc _,qC I _,I.size⟩
def WiE.early(M:oW X (J A.1) 3 1 (sZ g 0 (E p+1) c) (E p+1) (p.map ai++[ai xv]))(O:oW X (J A.1) 183 1 (sZ g' 0 nT c') nT bs)(V:Bl A X)(I:BrX X k x y)(K:J A.1<=k):
 WiE A p xv nT bs k (sW (sW X (az k 0) (sZ g 0 (E p+1) c)) (az k 1) (sZ g' 0 nT c')) g c g' c':=
 ⟨I.set _ _,by rw[mA];exact vm M I Dd,vm O I Dd,(V.setCell K _).setCell K _,K⟩
def qDg{B1 B2 bb cb}cu cc(p:LI){ts}xv y
 (hp:oW w B1 3 1 vp (E p) (p.map ai)) (j6:E p<=1000) (hb:oW w B2 183 1 (sZ bb 0 nT cb) nT bs) (e3:∀u∈bs,u.oneCell') (i8:0<nT) (hT:nT<=1000)
 (ht:IS w vt ts) (hn:E ts<=1000) (e8:∀j,j<E ts->0<=U ts j 0/\U ts j 0<nT)
 (e9:∀W,Bl w W->∀j,j<E ts->aF 199 #[pZ cu (j*2)] W (pZ (y j) 0) λw'=>∃d,w'=W.drewN d):
 Cl 196 #[aQ #[vp,sZ bb 0 nT cb],ai xv,vt,sZ cu 0 (E ts) cc] w λe w'=>∃g c g' c',e=rE (aQ #[sZ g 0 (E p+1) c,sZ g' 0 nT c'])/\
  oW w' (J w.1) 3 1 (sZ g 0 (E p+1) c) (E p+1) ((p++[xv]).map ai)/\oW w' (J w.1) 183 1 (sZ g' 0 nT c') nT (vX bs ts y (E ts))/\Bl w w':=by
 have⟨i0,hi,c9,d0,d1⟩:=aX Tryz.infoInt;obtain⟨ap,cp,rfl⟩:=xT hp;obtain⟨i9,ct,rfl,hc⟩:=ht;have⟨n,g8⟩:=Ex (E ts);rw[<-g8]at hc hn e8 e9 |-;clear g8;have⟨O,d2⟩:=Ex (S (S w (eZ #[Z ap (E p) cp,sZ bb 0 nT cb] 180)) (eZ #[sn,sn] 180));have e0:Bl w O:=by rw[d2];exact(aK).alloc Ss _
 have hs1:O.1.size=J w.1+2:=by rw[d2];simp
 have f7:BrX O (J w.1) (Z ap (E p) cp) (sZ bb 0 nT cb):=by rw[d2];exact(BrX.new w _ _).zz (aK)
 have d5:BrX O (J w.1+1) sn sn:=by
  rw[d2];have:=BrX.new (S w (eZ #[Z ap (E p) cp,sZ bb 0 nT cb] 180)) sn sn;rwa[aM]at this
 have a4:=ay d5;have g9:=ay hs1;have h4:=ay e0;have h5:Hh (∀W,Bl O W->eQ W (az (J w.1) 0)=Q (Z ap (E p) cp)/\eQ W (az (J w.1) 1)=Q (sZ bb 0 nT cb)/\Bl O W):=λW hW=>⟨(f7.zz hW).c0,(f7.zz hW).c1,hW⟩;have K1:Hh (∀W,Bl O W->Cl 126 #[Z ap (E p) cp] W λe w'=>∃v,e=rE v/\oW w' O.1.size 3 1 v (E p) (p.map ai)/\Bl W w'/\Bl O w'):=λW hW=>
  (uC W _ p (qN (qB (qB hp e0) hW)) Oo).mono λe w' ⟨v,h1,h2,h3⟩=>⟨v,h1,qE h2 hW.size,h3,bt hW h3⟩
 have K2:Hh (∀W,Bl O W->Cl 234 #[sZ bb 0 nT cb] W λe w'=>∃g' c',e=rE (sZ g' 0 nT c')/\oW w' O.1.size 183 1 (sZ g' 0 nT c') nT bs/\Bl W w'/\Bl O w'):=λW hW=>
  (Ja W _ _ _ _ _ (qB (qB hb e0) hW) i8 Oo e3).mono λe w' ⟨g',c',h1,h2,h3⟩=>⟨g',c',h1,qE h2 hW.size,h3,bt hW h3⟩
 have HC:Hh (∀W,Bl w W->∀j,j<n->∃(b o:Nat),i9=Q (az b o)/\eQ W (az b (o+j))=Q (ai (U ts j 0))):=λW hW j hj=>by
  rcases hc with h0|⟨b,o,rfl,h⟩;omega;exact⟨b,o,rfl,(hW.cell (bL w _ (h j hj))).trans (h j hj)⟩
 have f8:=ay e8;have f9:=ay e9;have k3:=ay hb.1;clear hc e8 e9 hp hb e3 f7 d5 e0 hs1;go_enter func196,ntmps196;go_upto_region 1 with fail;rw[<-d2];clear d2;go_cut [9] from 12 to 21 (λv wc=>∃k,v=pZ k 0/\Hh (∃g c g' c',WiE O p xv nT bs k wc g c g' c'))
 case first=>
  first|go_region_held_law (λW=>eQ W (az (J w.1) 0)=Q (Z ap (E p) cp)/\eQ W (az (J w.1) 1)=Q (sZ bb 0 nT cb)/\Bl O W)
   (first|refine h5.o _ ?_;(repeat(with_reducible first|exact eB|exact d6|exact M|exact a3|refine qT ?_|refine qC ?_ _|refine Below.setCell ?_ (by first|exact nR _|(dsimp only;omega)) _));done)
   (first
    |(refine sX _ Fl _ _ _ Fl _ 3 _ _ 1 8 tU hi c9 d0 d1 rfl Dd _ _ _ Fl K _ 1 1 _ Fl Fl (b9 _ eB) Hu Dd Um Oo (by first|exact b7|(simp;omega)) _ rfl ?_;intro g17 d7 d4 V I a7 a8;have M:=grB (by(repeat(with_reducible first|exact eB|exact M|exact a3|refine qT ?_|refine qC ?_ _))) K I;try(have a5:=d8.gr K Dd I))
    |(refine sX _ Fl _ _ _ Fl O.1.size 3 i0 (ai 0) 1 8 tU hi c9 d0 d1 rfl Dd d3 (E p) _ Fl K (az (O.1.size+1) 0) 1 1 [ai xv] Fl Fl (b9 _ eB) Hu Dd Um Oo (by first|exact b7|(simp;omega)) _ rfl ?_;intro g17 d7 d4 V I a7 a8;have M:=grB (by(repeat(with_reducible first|exact eB|exact M|exact a3|refine qT ?_|refine qC ?_ _))) K I;try(have a5:=d8.gr K Dd I))
    |(refine sX _ Fl _ _ _ Fl _ 3 _ _ 1 8 tU hi c9 d0 d1 rfl Dd _ _ _ Fl (K.alloc _) _ 1 1 _ Fl Fl (qH _ _ _) Hu Dd Um Oo (by first|exact b7|(simp;omega)) _ rfl ?_;intro g17 d7 d4 V I a7 a8;have M:=grB (by(repeat(with_reducible first|exact eB|exact M|exact a3|refine qT ?_|refine qC ?_ _))) (K.alloc _) I;try(have a5:=(d8.zz (qC eB _)).gr (K.alloc _) Dd I))
    |(refine sX _ Fl _ _ _ Fl _ 3 _ _ 1 8 tU hi c9 d0 d1 rfl Dd _ _ _ Fl (K.alloc _) _ 1 1 _ Fl Fl (b9 _ (qC eB _)) Hu Dd Um Oo (by first|exact b7|(simp;omega)) _ rfl ?_;intro g17 d7 d4 V I a7 a8;have M:=grB (by(repeat(with_reducible first|exact eB|exact M|exact a3|refine qT ?_|refine qC ?_ _))) (K.alloc _) I;try(have a5:=(BrX.new c7 _ _).gr (K.alloc _) Dd I))
    |(refine sX _ Fl _ _ _ Fl _ 3 _ _ 1 8 tU hi c9 d0 d1 rfl Dd _ _ _ Fl ((K.alloc _).alloc _) _ 1 1 _ Fl Fl (YJ rfl (qC eB _)) Hu Dd Um Oo (by first|exact b7|(simp;omega)) _ rfl ?_;intro g17 d7 d4 V I a7 a8;have M:=grB (by(repeat(with_reducible first|exact eB|exact M|exact a3|refine qT ?_|refine qC ?_ _))) ((K.alloc _).alloc _) I;try(have a5:=(qDf (X:=c7.alloc (eZ _ 3)) (k:=c7.1.size+1) Ss eB).gr ((K.alloc _).alloc _) Dd I))
    |(refine sX _ Fl _ _ _ Fl _ 3 _ _ 1 8 tU hi c9 d0 d1 rfl Dd _ _ _ Fl ((K.alloc _).alloc _) _ 1 1 _ Fl Fl (YJ (X:=c7.alloc (eZ #[sn,sn] 180)) Ss eB) Hu Dd Um Oo (by first|exact b7|(simp;omega)) _ rfl ?_;intro g17 d7 d4 V I a7 a8;have M:=grB (by(repeat(with_reducible first|exact eB|exact M|exact a3|refine qT ?_|refine qC ?_ _))) ((K.alloc _).alloc _) I;try(have a5:=((BrX.new _ _ _).zz (qC eB _)).gr ((K.alloc _).alloc _) Dd I))
    |(go_simp;go_at_call 126;(with_reducible refine(K1.o _ (by(repeat(with_reducible first|exact eB|exact M|exact a3|refine qT ?_|refine qC ?_ _)))).mono ?_);rintro e c7 ⟨d3,rfl,K,e4,a3⟩;have b7:=a3.size;have a9:=Qb e4;clear e4;(first
       |(have b9:=qF3 (v:=ai xv) (t:=3) (X:=O) (k:=O.1.size) rfl (bt (qC eB _) a9);have d8:=qDf (X:=O.alloc (eZ #[ai xv] 3)) (k:=O.1.size+1) Ss a9)
       |(have d8:=qDf (X:=O) (k:=O.1.size) rfl (bt (qC eB _) a9);have b9:=qF3 (v:=ai xv) (t:=3) (X:=O.alloc (eZ #[sn,sn] 180)) (k:=O.1.size+1) Ss a9)
       |have b9:=qF3 (t:=3) rfl a9
       |have d8:=qDf (X:=O) (k:=O.1.size) rfl a9
       |skip);clear a9)
    |(go_simp;go_at_call 234;(with_reducible refine(K2.o _ (by(repeat(with_reducible first|exact eB|exact M|exact a3|refine qT ?_|refine qC ?_ _)))).mono ?_);rintro e k4 ⟨g20,k5,rfl,e5,c8,d6⟩;have j5:=M.size;(first|have b8:=qB V c8|have b8:=qB (V.alloc _) c8);(try(first|have a6:=a5.zz c8|have a6:=(BrX.new _ _ _).zz c8));(try(have k0:=a6.c0;have k1:=a6.c1;have f0:=a6.L 0;have f1:=a6.L 1)))
    |fail)|fail
  all_goals(go_wp2;go_meet)
  all_goals first
   |exact⟨_,rfl,ay ⟨_,_,_,_,WiE.late b8 e5 d6⟩⟩
   |exact⟨_,rfl,ay ⟨_,_,_,_,WiE.early b8 e5 d6 a6 (by first|exact nR _|omega)⟩⟩
 case rest=>
 obtain⟨k9,rfl,h6⟩:=hcut;have⟨g,c,g',c',hE⟩:=h6.o;have HE:=ay hE;clear h6 hE K1 K2 h5;generalize wc=W5 at *;have h7:vX bs ts y 0=bs:=rfl;have h9:=ay h7;have g4:Hh (∀k,vX bs ts y (k+1)=(vX bs ts y k).set (U ts k 0).toNat (pZ (y k) 0)):=λk=>rfl;clear h7;have i3:=ay (bt h4.o HE.o.O);have e6:=ay (a4.o.zz HE.o.O);have e7:=HE.o.low;have g5:=ay (And.intro e7 g9.o);clear e7 h4 a4 g9;go_wp2;go_loopw [24] (λt wr=>∃(j:Nat),j<=n/\t=ai j/\Hh (BrX wr k9 (sZ g 0 (E p+1) c) (sZ g' 0 nT c')/\oW wr O.1.size 3 1 (sZ g 0 (E p+1) c) (E p+1) ((p++[xv]).map ai)/\oW wr O.1.size 183 1 (sZ g' 0 nT c') nT (vX bs ts y j)/\Bl w wr/\BrX wr (J w.1+1) sn sn)) (mZ n);exact⟨0,eC,rfl,ay ⟨HE.o.box,HE.o.op,by rw[h9.o];exact HE.o.ob,i3.o,e6.o⟩⟩;clear HE h9 i3 e6;obtain⟨j,k6,rfl,HT⟩:=hrel;have⟨hX,i4,i5,hB,d5⟩:=HT.o;have HX:=ay hX;have d9:=ay i4;have b1:=ay i5;have HB:=ay hB;have a4:=ay d5;clear HT hX i4 i5 hB d5;by_cases g6:j<n
 .have i1:=aV g6;have⟨b,o,ea,e1⟩:=HC.o wr HB.o j g6;subst ea;have h3:=f8.o j g6;have i6:=ay (g4.o j);have⟨t,ht⟩:=Ex ((U ts j 0).toNat:Nat);have e2:U ts j 0=(t:Int):=Oo;rw[<-ht]at i6;rw[e2]at e1 h3;have i2:(t:Int)<nT:=Oo;clear ht e2 h3;have KB:=ay (λW (hW:Bl w W)=>f9.o W hW j g6);have j0:=ay HB.o.drew;generalize y j=yj at *;have k1:=HX.o.c1;have g7:k9≠g':=λe=>own_ne b1.o ⟨_,HX.o⟩ Dd (by rw[e];rfl);have HK:Hh (∀(d:Nat) (v:oV),eQ (sW (wr.drewN d) (az g' t) v) (az k9 1)=Q (sZ g' 0 nT c')):=λd v=>(bF (w:=wr) (a:=(az k9 1)) (eG g7)).trans k1;have ff:∀d,(wr.drewN d).frozen? (az g' t)=false:=λd=>b1.o.frozenAt t;have fc:∀d,eQ (wr.drewN d) (az g' t)=(vX bs ts y j)[t]?:=λd=>b1.o.cellAt t Oo;obtain⟨ou,i7⟩:∃ou,(vX bs ts y j)[t]?=Q ou:=by
   have hl:=b1.o.1;exact⟨_,gE Oo⟩
  rw[i7]at fc;have j1:Hh (∀d:Nat,eQ (wr.drewN d) (az k9 1)=Q (sZ g' 0 nT c')):=λd=>k1;have j2:Hh (eQ wr.drew (az k9 1)=Q (sZ g' 0 nT c')):=k1;have HN:Hh (∀d:Nat,BrX (sW (wr.drewN d) (az g' t) (pZ yj 0)) k9 (sZ g 0 (E p+1) c) (sZ g' 0 nT c')/\oW (sW (wr.drewN d) (az g' t) (pZ yj 0)) O.1.size 3 1 (sZ g 0 (E p+1) c) (E p+1) ((p++[xv]).map ai)/\oW (sW (wr.drewN d) (az g' t) (pZ yj 0)) O.1.size 183 1 (sZ g' 0 nT c') nT (vX bs ts y (j+1))/\Bl w (sW (wr.drewN d) (az g' t) (pZ yj 0))/\BrX (sW (wr.drewN d) (az g' t) (pZ yj 0)) (J w.1+1) sn sn):=λd=>by
   have k7:=(b1.o.lt g' rfl);have h8:J w.1+1≠g':=λe=>own_ne b1.o ⟨_,a4.o⟩ Dd (by rw[e];rfl);refine⟨(eG g7).trans HX.o,qD (d9.o:oW (wr.drewN d) _ _ _ _ _ _) λq hq=>eG (λe=>?_),?_,(rB HB.o d).setCell (by show J w.1<=g';have:=g5.o.2;omega) _,(eG h8).trans a4.o⟩;have⟨cur,hc⟩:=qK b1.o (g:=g') rfl;have e':q=g':=e;exact own_ne d9.o ⟨cur,hc⟩ Dd (by rw[<-e'];exact hq.symm);rw[i6.o];exact((b1.o:oW (wr.drewN d) _ _ _ _ _ _).stored t _).1
  clear HC f8 f9 g4 HX d9 b1 a4 g7 k1 i7;generalize wr=wo at *;go_upto_region 5 with fail;go_region_held_law (λW=>eQ W (az k9 1)=Q (sZ g' 0 nT c'))
   (with_reducible first|exact j2.o|exact j1.o _|exact HK.o _ _)
   (first
    |(go_simp;go_at_call 199;(with_reducible refine(KB.o _ j0.o).mono ?_);rintro e w9 ⟨rfl,d,rfl⟩;have f1:=ff (1+d);have f2:=fc (1+d))
    |fail)
  all_goals(go_wp2;go_roundw)
  all_goals first
   |exact⟨j+1,Oo,Gg,ay (HN.o (1+d))⟩
   |exact Im
 obtain rfl:j=n:=Oo;have i1:=aY j;have k0:=HX.o.c0;have k1:=HX.o.c1;have f0:=a4.o.L 0;have f1:=a4.o.L 1;have r0:=a4.o.c0;have r1:=a4.o.c1;have k8:k9≠J w.1+1:=O1 g5.o
 have j3:=ay (vm (u1:=sZ g 0 (E p+1) c) (u2:=sZ g' 0 nT c') d9.o a4.o Dd);have j4:=ay (vm (u1:=sZ g 0 (E p+1) c) (u2:=sZ g' 0 nT c') b1.o a4.o Dd);have hw1:J w.1<=O.1.size:=O1 g5.o.2
 clear HC f8 f9 g4 HX d9 b1 a4;go_wp2_with fail;refine aU (v:=aQ #[sZ g 0 (E p+1) c,sZ g' 0 nT c']) (by simp[results,results196,go_sem,r0,r1]) rfl ?_;exact⟨g,c,g',c',rfl,by have:=qE j3.o hw1;simpa using this,qE j4.o hw1,(HB.o.setCell (by show _<=J w.1+1;omega) _).setCell (by show _<=J w.1+1;omega) _⟩
