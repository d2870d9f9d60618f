import Derived.Test.YtfpjpngjikdaoaaGreatAg06
import Derived.Test.YtfpjpngjikdaoaaGreatAg07
import Derived.Deep.Cut
import Derived.Laws.OwnMore
import Derived.Test.YtfpjpngjikdaoaaGreatAg01
import Derived.Carry
import Derived.Deep.Slices
import Derived.Lib.SmallJoins
import Derived.OpenShut
import Derived.ProofKit
import Derived.Test.YtfpjpngjikdaoaaGreatRows
import Derived.LoopIn
import Derived.LoopNIn
import Derived.OwnWalkIn
import Derived.RegionIn
import Derived.Shelf.Abstract
import Derived.Shelf.AbstractIn
import Derived.Shelf.RegionOpen
import Derived.TacticsInMore
import Derived.WalkMore
set_option maxHeartbeats 40000000
set_option maxRecDepth 1000000
set_option linter.defProp false
open List Go.World
open List renaming length->E,getD->U,range->wI
open Array renaming size->J
open Go.World renaming alloc->S,cell?->eQ,ownsRow->oW,setCell->sW
open Go.Value renaming slice->Z,agg->aQ,bool->oB,ownBlock->wN
open Go.Obj renaming cells->eZ
open Go.Ending renaming returned->rE
open Option renaming some->Q
open Bool renaming false->nF
open Decidable renaming decide->oD
open Go renaming World->oX,Value->oV,below_drewN->rB
open Go.Proofs.Tryz renaming underlying24->tU,underlying23->tV,underlying3->tY,prog->wD
namespace Go.Proofs.YtfpjpngjikdaoaaGreat
open Go.Proofs.Tryz Go.RowKit
section
variable {k x:Int}{b l o q r xs ps:LI}{bs ls L:LL}{tl:List TbV}{i j m B n c:Nat}{a t:TbV}{v vp vv vw vb:oV}{W w A X W':oX}{f:LI->LI}
def xk(a b:TbV):TbV:=⟨a.e,kpR (Z8 a.e b.e a.x b.x) a.x (E a.x),kpW (Z8 a.e b.e a.x b.x) a.k (E a.x)⟩
def Agr.symm{a s}(h:Agr a b r s):Agr b a s r:=λv I K=>(h v K I).symm
def qGd{I vb rb}:UZ I vb rb r↔∃s∈rb,Agr I vb r s:=by
 unfold UZ Ya;rw[dE,(zQ _ _ eA).2,cC];refine exists_congr λs=>and_congr_right λ_=>?_;unfold qQ;rw[map_inj_left];exact⟨λh v K M=>(h v (cK.2 ⟨K,fD M⟩)).symm,λh v hv=>(h v (zu hv) (uA hv)).symm⟩
def VV{rows}{q:LI->Bool}:∀n,n<=E rows->kpR (λi=>q (U rows i [])) rows n=(rows.take n).filter q
 |0,_=>by simp[kpR,kp]
 |n+1,h=>by
  have I:=VV (rows:=rows) (q:=q) n Oo;rw[tA,gE Oo,cZ,<-I,<-gdR (d:=[]) (show n<E rows by omega)];cases e:q (U rows n [])
  rw[qBV rows e];show _=_++filter q [U rows n []];rw[filter_cons,e];simp;rw[qC7 rows e];show _=_++filter q [U rows n []];rw[filter_cons,e];simp
def Z5 a b:(xk a b).x=a.x.filter (UZ a.e b.e b.x):=by
 show kpR _ a.x (E a.x)=_;rw[show Z8 a.e b.e a.x b.x=(λi=>UZ a.e b.e b.x (U a.x i [])) from rfl,VV _ eA,tL]
def yr{b}:r∈(xk a b).x↔r∈a.x/\∃s∈b.x,Agr a.e b.e r s:=by rw[Z5,cK,qGd]
structure OneT(t:TbV)(bv:LI):Prop where
 e:t.e=bv
 set:qb bv
 few:E t.x<=10000
 sl:SL t.x
 C:∀r∈t.x,E r=E bv
 k:t.k=zJ (E t.x)
def qFB(h:qW t):SL t.x:=by
 have O:yM t.x (E t.e):=by
  unfold qW ql at h;rw[bV,bV]at h;exact h.1.2
 have step:∀i,i<E t.x->0<i->cmpL (U t.x (i-1) []) (U t.x i [])<0:=λi hi h0=>by
  unfold yM at O;have I:=aT.1 O i (cJ.2 hi);unfold rowAt at I;rw[bV,eT,dE,dE,dE]at I;rcases I.2 with V|V;omega;exact V
 have all:∀j,j<E t.x->∀i,i<j->cmpL (U t.x i []) (U t.x j [])<0:=by
  intro j;induction j with
  |zero=>intro _ i hi;omega
  |succ j ih=>
   intro K i hi;have I:=step _ K Oo;rw[oZ]at I;by_cases e:i=j;rw[e];exact I;exact zi (ih Oo i Oo) I
 refine pairwise_iff_getElem.2 λi j hi K M=>?_;have:=all j K i M;rwa[gdR hi,gdR K]at this
def OneT.tab{vs}(h:OneT t vs):qW t:=by
 unfold qW ql;rw[h.e,h.k,bV,bV,bV,dE,dE];refine⟨⟨⟨h.set,h.few⟩,jh λi hi=>?_⟩,uv⟩;unfold rowAt;rw[bV,eT,dE,dE,dE];refine⟨by rw[gdR hi,h.C _ (gM hi)],?_⟩;by_cases e:i=0;exact .inl e;refine .inr ?_;rw[gdR hi,gdR (show i-1<E t.x by omega)];exact pairwise_iff_getElem.1 h.sl _ i Oo _ Oo
def OneT.sem{b vs}(h:OneT a vs):OneT (xk a b) vs:=by
 refine⟨h.e,h.set,?_,?_,λr I=>h.C r ((λr I=>(yr.1 I).1) r I),?_⟩;rw[Z5];exact bM (dH _ _) h.few;rw[Z5];exact h.sl.filter _;show kpW _ a.k _=zJ (E (kpR _ _ _));unfold kpW kpR zJ;rw[lM,h.k];refine eq_replicate_iff.2 ⟨lM _,λx K=>?_⟩;obtain⟨i,hi,rfl⟩:=cC.1 K;rw[gdR (by rw[uv];exact cJ.1 (cK.1 hi).1)];unfold zJ;rw[getElem_replicate]
def x6{α:Type}{l:List α}{d x}(hi:i<E l):U (l.set i x) j d=if j=i then x else U l j d:=by
 rw[gD,getElem?_set,gD];by_cases e:j=i;subst e;rw[fE rfl,fE rfl,fE hi];rfl;rw[fF (λh=>e h.symm),fF e]
def upT(par:NN)(T:List TbV):Nat->List TbV
 |0=>T
 |n+1=>(upT par T n).set (par n) (xk (U (upT par T n) (par n) qA) (U (upT par T n) n qA))
def dnT(par:NN)(m:Nat)(T:List TbV):Nat->List TbV
 |0=>T
 |j+1=>(dnT par m T j).set (m-1-j) (xk (U (dnT par m T j) (m-1-j) qA) (U (dnT par m T j) (par (m-1-j)) qA))
structure RdS(m:Nat)(B:Nat->LI)(R:Nat->LL)(An:(Int->Int)->Prop)(T:List TbV):Prop where
 C:E T=m+1
 ok:∀i,i<=m->OneT (U T i qA) (B i)
 sub:∀i,i<=m->∀r∈(U T i qA).x,r∈R i
 has:∀f,An f->∀i,i<=m->(B i).map f∈(U T i qA).x
section
variable {m:Nat} {par:NN} {B:Nat->LI} {R:Nat->LL} {An:(Int->Int)->Prop} {T:List TbV}
def RdS.set(h:RdS m B R An T)(hB:∀i,(B i).Pairwise (·< ·)){p}(hi:i<=m)(O:p<=m):RdS m B R An (T.set i (xk (U T i qA) (U T p qA))):=by
 have hl:i<E T:=O1 h.C
 refine⟨by rw[length_set];exact h.C,λl I=>?_,λl I r K=>?_,λf M l I=>?_⟩
 .rw[x6 hl];split
  .rename_i e;rw[e];exact(h.ok i hi).sem
  exact h.ok l I
 .rw[x6 hl]at K;split at K
  .rename_i e;rw[e];exact h.sub i hi r (yr.1 K).1
  exact h.sub l I r K
 rw[x6 hl];split
 .rename_i e;rw[e];refine yr.2 ⟨h.has f M i hi,_,h.has f M p O,?_⟩;rw[(h.ok i hi).e,(h.ok p O).e];exact λv I V=>by rw[Qi (hB i) f I,Qi (hB p) f V]
 exact h.has f M l I
def DnR(par:NN)(B:Nat->LI)(T:List TbV)(i:Nat):Prop:=∀s∈(U T (par i) qA).x,∃r∈(U T i qA).x,Agr (B i) (B (par i)) r s
def UpR(par:NN)(B:Nat->LI)(T:List TbV)(i:Nat):Prop:=∀r∈(U T i qA).x,∃s∈(U T (par i) qA).x,Agr (B i) (B (par i)) r s
def VW(hB:∀i,(B i).Pairwise (·< ·))(K:∀i,i<m->i<par i/\par i<=m)(h:RdS m B R An T):∀n,n<=m->RdS m B R An (upT par T n)/\∀i,i<n->DnR par B (upT par T n) i
 |0,_=>⟨h,λi hi=>Oo⟩
 |n+1,hn=>by
  have⟨I,V⟩:=VW hB K h n Oo;have⟨p1,M⟩:=K n Oo;have hl:par n<E (upT par T n):=O1 I.C
  refine⟨I.set hB M Oo,λi hi=>?_⟩;show DnR par B ((upT par T n).set (par n) _) i;unfold DnR;intro s hs;have⟨q1,q2⟩:=K i Oo;rw[x6 hl]at hs;rw[x6 hl,fF (show ¬i=par n by omega)];by_cases e:i=n;subst e;rw[fE rfl]at hs;have⟨h3,r,hr,O⟩:=yr.1 hs;rw[(I.ok _ M).e,(I.ok i Oo).e]at O;exact⟨r,hr,O.symm⟩;refine V i Oo s ?_;split at hs
  .rename_i e2;rw[e2];exact(yr.1 hs).1
  exact hs
def qBK(hB:∀i,(B i).Pairwise (·< ·))(V:∀i,i<m->i<par i/\par i<=m)(h:RdS m B R An T)(hd:∀i,i<m->DnR par B T i):∀n,n<=m->RdS m B R An (dnT par m T n)/\(∀i,i<m->DnR par B (dnT par m T n) i)/\∀i,m-n<=i->i<m->UpR par B (dnT par m T n) i
 |0,_=>⟨h,hd,λi I h2=>Oo⟩
 |n+1,hn=>by
  have⟨I,h2,h3⟩:=qBK hB V h hd n Oo;have⟨j,hj⟩:=Ex (m-1-n);have⟨p1,p2⟩:=V j Oo;have hl:j<E (dnT par m T n):=O1 I.C
  have e0:dnT par m T (n+1)=(dnT par m T n).set j (xk (U (dnT par m T n) j qA) (U (dnT par m T n) (par j) qA)):=by rw[hj];rfl
  rw[e0];generalize dnT par m T n=T at *;refine⟨I.set hB Oo p2,λi hi=>?_,λi a3 M=>?_⟩
  .unfold DnR;intro s hs;have⟨q1,q2⟩:=V i hi;rw[x6 hl]at hs;by_cases e:i=j;subst e;rw[fF (show ¬par i=i by omega)]at hs;have⟨r,K,O⟩:=h2 i hi s hs;refine⟨r,?_,O⟩;rw[x6 hl,fE rfl];refine yr.2 ⟨K,s,hs,?_⟩;rw[(I.ok i Oo).e,(I.ok _ q2).e];exact O;rw[x6 hl,fF e];refine h2 i hi s ?_;split at hs
   .rename_i e2;rw[e2];exact(yr.1 hs).1
   exact hs
  unfold UpR;intro r K;have⟨q1,q2⟩:=V i M;rw[x6 hl]at K;rw[x6 hl,fF (show ¬par i=j by omega)];by_cases e:i=j;subst e;rw[fE rfl]at K;obtain⟨-,s,hs,O⟩:=yr.1 K;rw[(I.ok i Oo).e,(I.ok _ q2).e]at O;exact⟨s,hs,O⟩;rw[fF e]at K;exact h3 i Oo M r K
def qIC(hB:∀i,(B i).Pairwise (·< ·))(K:∀i,i<m->i<par i/\par i<=m)(rip:∀j,j<m->∀l,j<l->l<=m->∀v,v∈B j->v∈B l->v∈B (par j))(hA:∀f:Int->Int,(∀l,l<=m->(B l).map f∈R l)->An f)(h:RdS m B R An T)(hi:i<=m):
 OneT (U (dnT par m (upT par T m) m) i qA) (B i)/\∀r,r∈(U (dnT par m (upT par T m) m) i qA).x↔∃f,An f/\(B i).map f=r:=by
 have⟨h1,h2⟩:=VW hB K h m eA;have⟨I,h4,h5⟩:=qBK hB K h1 h2 m eA;refine⟨I.ok i hi,λr=>⟨λM=>?_,?_⟩⟩;have⟨f,O,V⟩:=qGc hB (λi hi r M=>(I.ok i hi).C r M) K rip (λi hi=>h5 i Oo hi) (λi hi=>h4 i hi) m eA i Oo hi r M;exact⟨f,hA f λl hl=>I.sub l hl _ (V l Oo hl),O⟩;rintro⟨f,hf,rfl⟩;exact I.has f hf i hi
def UU par m T:∀n,E (dnT par m T n)=E T
 |0=>rfl
 |n+1=>by
  show E (List.set _ _ _)=_;rw[length_set,UU par m T n]
def XZ par T:∀n,E (upT par T n)=E T
 |0=>rfl
 |n+1=>by
  show E (List.set _ _ _)=_;rw[length_set,XZ par T n]
end
def qCX(h:l.Pairwise (·< ·))(hb:∀x∈l,0<=x/\x<6):qb l:=QI λi hi=>by
 have K:U l i 0=l[i]:=by rw[gD,gE hi];rfl
 have I:=hb _ (gM hi);rw[<-K]at I;unfold xV;rw[bV,bV,eT,dE,dE,dE,dE];refine⟨⟨I.1,I.2⟩,?_⟩;by_cases e:i=0;exact .inl e;refine .inr ?_;have M:U l (i-1) 0=l[i-1]:=by rw[gD,gE Oo];rfl
 rw[K,M];exact pairwise_iff_getElem.1 h _ i Oo _ Oo
def XM(h:qb l)(K:x∈l):0<=x/\x<6:=by
 obtain⟨i,hi,rfl⟩:=gO K;have I:=Q8 h i hi;rw[gD,gE hi]at I;have M:(i:Int)<=l[i]:=I.1;exact⟨Oo,I.2⟩
def prR(b:LI)(t:TbV):LL:=srt (t.x.map (qQ t.e (shr t.e b)))
def prT(b:LI)(t:TbV):TbV:=⟨shr t.e b,prR b t,zJ (E (prR b t))⟩
def hasB(b:LI)(t:TbV):Bool:=oD (0<E (shr t.e b))
def yZ(tl:List TbV)(b:LI):List TbV:=(tl.filter (hasB b)).map (prT b)
def J5 b:E (yZ tl b)<=E tl:=by
 unfold yZ;rw[lM];exact dH _ _
def qEI(I:j<E tl):yZ (tl.take (j+1)) b=yZ (tl.take j) b++(if hasB b (U tl j qA) then [prT b (U tl j qA)] else []):=by
 unfold yZ;rw[tA,gE I,cZ,mA,gD,gE I];show _++List.map (prT b) (filter (hasB b) [tl[j]])=_++(if hasB b tl[j] then [prT b tl[j]] else []);rw[filter_cons];split <;> rfl
def qIf b:SL (prR b t)/\E (prR b t)<=E t.x/\∀r∈prR b t,E r=E (shr t.e b):=by
 unfold prR;have I:=zQ _ (t.x.map (qQ t.e (shr t.e b))) eA;have K:=yK _ (t.x.map (qQ t.e (shr t.e b))) eA;rw[lM]at K;refine⟨I.1,K,λr M=>?_⟩;obtain⟨q,-,rfl⟩:=cC.1 ((I.2 r).1 M);exact vZ
def qHB(h:qW t)b:qW (prT b t):=by
 have⟨K,O,V⟩:=qL h;have⟨g1,g2,g3⟩:=qIf (t:=t) b;show ql (shr t.e b) (prR b t) (zJ (E (prR b t)))=true;generalize prR b t=R at *;unfold ql;rw[bV,bV,bV,dE,dE];refine⟨⟨⟨qCX (Z9 (xK K)) λx M=>XM K (zu M),Oo⟩,jh λi hi=>?_⟩,uv⟩;have I:∀{i:Nat} (hi:i<E R),U R i []=R[i]:=λ{i} hi=>by rw[gD,gE hi];rfl
 unfold rowAt;rw[bV,eT,dE,dE,dE];refine⟨by rw[I hi,g3 _ (gM hi)],?_⟩;by_cases e:i=0;exact .inl e;refine .inr ?_;rw[I hi,I (show i-1<E R by omega)];exact pairwise_iff_getElem.1 g1 _ i Oo _ Oo
def bgR(tl:List TbV)(b:LI):LL:=qO (yZ tl b) b
def bgT(tl:List TbV)(b:LI):TbV:=⟨b,bgR tl b,zJ (E (bgR tl b))⟩
def bgV(tl:List TbV)(b:LI):Int:=zK (yZ tl b) b
def qc(k:Int)(tl:List TbV)(bs:LL)(ps hs:LI)(ws:LP)(x:Int×Int):Bool:=tl.all qW&&zX k (tl.map TbV.e) bs ps hs ws x
def jQ(k:Int)(tl:List TbV)(bs:LL)(ps hs:LI)(ws:LP)(x:Int×Int):Bool:=qc k tl bs ps hs ws x&&bs.all λb=>oD (0<=bgV tl b)
def vF(k:Int)(tl:List TbV)(bs:LL)(ps hs:LI)(ws:LP)(x:Int×Int):List TbV:=if jQ k tl bs ps hs ws x then bs.map (bgT tl) else []
def yh(k:Int)(tl:List TbV)(bs:LL)(ps hs:LI)(ws:LP)(x:Int×Int):Int:=if jQ k tl bs ps hs ws x then (bs.map (bgV tl)).sum else -1
def zR{hs ws x}(h:qc k tl bs ps hs ws x):tl.all qW/\xN k (tl.map TbV.e)/\E bs<=12/\E tl<=7/\∀i,i<E bs->xU k (U bs i [])/\qb (U bs i []):=by
 unfold qc zX at h;rw[bV,bV,bV,bV,bV,bV]at h;obtain⟨V,⟨⟨⟨⟨M,I⟩,-⟩,-⟩,-⟩,-⟩:=h;have O:=jm (xA M).2.2;rw[lM]at O;unfold yf at I;rw[bV,dE,aT]at I;refine⟨V,M,I.1,O,λi hi=>?_⟩;have K:=I.2 (U bs i []) (by rw[gD,gE hi];exact gM hi);refine⟨K,?_⟩;unfold xU at K;rw[bV,bV]at K;exact K.1.2
def qCY:zK tl o<=60000:=by
 unfold zK;by_cases h:okJ tl o&&smJ tl o (E o);rw[fE h];rw[bV]at h;have I:=h.1;unfold okJ at I;rw[bV]at I;have K:=(xp.1 I.2).length_eq;have M:=XV tl;have O:=qAr h.2;omega;rw[fF h];omega
def qCZ:-1<=zK tl o:=by
 unfold zK;split <;> omega
def uB(tl:List TbV)(bs:LL)(j:Nat):Int:=((bs.take j).map (bgV tl)).sum
def Uj(I:j<E bs):uB tl bs (j+1)=uB tl bs j+bgV tl (U bs j []):=by
 unfold uB;rw[tA,gE I,mA,sum_append,gD,gE I];simp
def qCa tl(bs:LL):∀j,j<=E bs->-1*(j:Int)<=uB tl bs j/\uB tl bs j<=60000*(j:Int)
 |0,_=>by simp[uB]
 |j+1,h=>by
  have I:=qCa tl bs j Oo;rw[Uj Oo];have K:bgV tl (U bs j [])<=60000:=qCY;have M:-1<=bgV tl (U bs j []):=qCZ;omega
section
variable {k:Int} {tl:List TbV} {bs:LL} {ps hs:LI} {ws:LP} {x:Int×Int}
def qJc(h:qc k tl bs ps hs ws x=nF):vF k tl bs ps hs ws x=[]/\yh k tl bs ps hs ws x=-1:=by
 unfold vF yh jQ;rw[h,eX];exact⟨rfl,rfl⟩
def qIg(I:j<E bs)(h:bgV tl (U bs j [])<0):vF k tl bs ps hs ws x=[]/\yh k tl bs ps hs ws x=-1:=by
 have e:(bs.all λb=>oD (0<=bgV tl b))=false:=by
  rw[all_eq_false];refine⟨U bs j [],by rw[gD,gE I];exact gM I,?_⟩;rw[fC Oo];decide
 unfold vF yh jQ;rw[e,pT];exact⟨rfl,rfl⟩
def qIh(h:qc k tl bs ps hs ws x)(hv:∀i,i<E bs->0<=bgV tl (U bs i [])):vF k tl bs ps hs ws x=bs.map (bgT tl)/\yh k tl bs ps hs ws x=uB tl bs (E bs):=by
 have e:(bs.all λb=>oD (0<=bgV tl b)):=by
  rw[aT];intro b hb;obtain⟨i,hi,rfl⟩:=gO hb;have:=hv i hi;rw[gD,gE hi]at this;exact fD this
 unfold vF yh jQ uB;rw[e,h,tL];exact⟨rfl,rfl⟩
end
def qEJ(I:j<E bs):(bs.take (j+1)).map (bgT tl)=(bs.take j).map (bgT tl)++[bgT tl (U bs j [])]:=by
 rw[tA,gE I,mA,gD,gE I];rfl
def upR(k:Nat):LI:=(wI k).map Int.ofNat
def zO k:E (upR k)=k:=by simp[upR]
def qBG k:upR (k+1)=upR k++[(k:Int)]:=by unfold upR;rw[dQ,mA];rfl
def orT(top:Int)(ps:LI):LI:=ps.map λx=>if x<0 then top else x
def vB top ps:E (orT top ps)=E ps:=lM _
def uN w(k:Nat)(hk:k<=1000):
 Cl 66 #[ai (k:Int)] w λe w'=>∃v,e=rE v/\oW w' (J w.1) 3 1 v (E (upR k)) ((upR k).map ai)/\Bl w w':=by
 have⟨i0,hi,a3,a4,a5⟩:=aX Tryz.infoInt;have HP:Hh (∀j,(upR (j+1)).map ai=(upR j).map ai++[ai (j:Int)]):=λj=>by rw[qBG,mA];rfl
 have a6:Hh ((upR 0).map ai=[]):=rfl;rw[zO];go_enter func66,ntmps66;go_wp2_with (at_make;refine nJ _ rfl _ _ 24 rfl _ 3 _ _ 1 tU hi a3 a4 _ _ _ k rfl rfl rfl ?b2 ?b3 eA ?_)
 case b2=>rw[a5];omega
 case b3=>unfold maxLen;omega
 intro w0 K I;have O:Hh (oW w0 (J w.1) 3 1 (sZ (J w.1) 0 0 k) 0 []/\Bl w w0):=⟨K,eB.grown I eA (λj hj=>by cases hj)⟩;go_wp2;go_loopw [3,8] (λu t wr=>∃(j:Nat) (vo:oV),j<=k/\t=ai j/\vo=u/\Hh (oW wr (J w.1) 3 1 vo j ((upR j).map ai)/\Bl w wr)) (λ_ t _=>k-(intOf t).toNat);exact⟨0,_,eC,rfl,rfl,ay ⟨a6.o▸O.1,O.2⟩⟩;obtain⟨j,vo,hj,rfl,rfl,HT⟩:=hrel;by_cases b7:j<k
 .have i1:=aV b7;have a7:=ay (HP j);have a8:=HT.2.size;go_wp2_with (at_builtin;refine apL rfl rfl tU Tryz.infoInt (HT.o.1.alloc _) rfl rfl (qH _ _ _) Sy ?_;intro g3 cp3 w4 V M a9 b1);go_roundw;exact⟨j+1,_,Oo,Gg,rfl,ay ⟨a7.o▸V,(HT.2.alloc a8 _).grown M Sy (λq hq=>(HT.1.lt q hq).1)⟩⟩;exact Im
 obtain rfl:j=k:=Oo;go_wp2;go_ret;exact⟨_,rfl,HT.1,HT.2⟩
def Xy w(top:Nat)(hp:IS w vp ps)(hl:E ps<=1000):
 Cl 91 #[vp,ai (top:Int)] w λe w'=>∃v,e=rE v/\oW w' (J w.1) 3 1 v (E ps) ((orT top ps).map ai)/\Bl w w':=by
 have⟨i0,hi,a4,a5,a6⟩:=aX Tryz.infoInt;obtain⟨a,c,rfl,hc⟩:=hp;have HC:Hh (∀W,Bl w W->∀j,j<E ps->∃(b o:Nat),a=Q (az b o)/\aC W b (o+j) (ai (U ps j 0))):=λW hW j hj=>by
  rcases hc with h2|⟨b,o,rfl,h2⟩;omega;exact⟨b,o,rfl,(hW.cell (bL w _ (h2 j hj))).trans (h2 j hj)⟩
 have HP:Hh (∀j,j<E ps->(orT top (ps.take (j+1))).map ai=(orT top (ps.take j)).map ai++[ai (if U ps j 0<0 then (top:Int) else U ps j 0)]):=λj hj=>by
  unfold orT;rw[tA,gE hj,mA,mA,gdR hj];rfl
 have a8:Hh ((orT top (ps.take 0)).map ai=[]):=rfl;have a9:Hh (orT top (ps.take (E ps))=orT top ps):=ay (by rw[tL]);have⟨n,hn⟩:=Ex (E ps);rw[<-hn]at HC HP a9 hl |-;clear hn;go_enter func91,ntmps91;go_wp2_with (at_make;refine nJ _ rfl _ _ 24 rfl (J w.1) 3 _ _ 1 tU hi a4 a5 _ _ _ (n+1) rfl rfl Gg ?b2 ?b3 Oo ?_)
 case b2=>rw[a6];omega
 case b3=>unfold maxLen;omega
 intro w0 O M;have a7:Hh (oW w0 (J w.1) 3 1 (sZ (J w.1) 0 0 (n+1)) 0 []/\Bl w w0):=⟨O,eB.grown M eA (λj hj=>by cases hj)⟩;go_wp2;go_loopw [5,14] (λu t wr=>∃(j:Nat) (vo:oV),j<=n/\t=ai j/\vo=u/\Hh (oW wr (J w.1) 3 1 vo j ((orT top (ps.take j)).map ai)/\Bl w wr)) (λ_ t _=>n-(intOf t).toNat);exact⟨0,_,nZ _,rfl,rfl,ay ⟨a8.o▸a7.1,a7.2⟩⟩;obtain⟨j,vo,hj,rfl,rfl,V⟩:=hrel;by_cases b1:j<n
 .have i1:=aV b1;have⟨b,o,ea,e1⟩:=HC _ V.2 j b1;subst ea;have a3:=ay (HP j b1);have b7:=V.2.size;generalize U ps j 0=y at *;by_cases hy:y<0
  .rw[fE hy]at a3;go_wp2_with (at_builtin;refine apL rfl rfl tU Tryz.infoInt (V.o.1.alloc _) rfl rfl (qH _ _ _) Sy ?_;intro g3 cp3 w4 K I b8 b9);go_roundw;exact⟨j+1,_,Oo,Gg,rfl,ay ⟨a3.o▸K,(V.2.alloc b7 _).grown I Sy (λq hq=>(V.1.lt q hq).1)⟩⟩;exact Im
  rw[fF hy]at a3;go_wp2_with (at_builtin;refine apL rfl rfl tU Tryz.infoInt (V.o.1.alloc _) rfl rfl (qH _ _ _) Sy ?_;intro g3 cp3 w4 K I b8 b9);go_roundw;exact⟨j+1,_,Oo,Gg,rfl,ay ⟨a3.o▸K,(V.2.alloc b7 _).grown I Sy (λq hq=>(V.1.lt q hq).1)⟩⟩;exact Im
 obtain rfl:j=n:=Oo;go_wp2;go_ret;have h2:=V.1;rw[a9.o]at h2;exact⟨_,rfl,h2,V.2⟩
section
variable {v:Int} {bs:LL} {ps:LI}
def JD:∀{n i:Nat},i<n->xI v bs ps i->1<=qu v bs ps n
 |n+1,i,hi,h=>by
  show 1<=qu v bs ps n+if xI v bs ps n then 1 else 0
  by_cases e:i=n;subst e;rw[fE h];omega;exact bM (JD Oo h) (nQ _ _)
def JE:∀{n i j:Nat},i<j->j<n->xI v bs ps i->xI v bs ps j->2<=qu v bs ps n
 |n+1,i,j,hij,hj,h1,h2=>by
  show 2<=qu v bs ps n+if xI v bs ps n then 1 else 0
  by_cases e:j=n;subst e;have:=JD hij h1;rw[fE h2];omega;exact bM (JE hij Oo h1 h2) (nQ _ _)
def qBL(I:xH ps (E bs))(hi:i<E bs):U ps i 0=-1\/((i:Int)<U ps i 0/\U ps i 0<(E bs:Int)):=by
 unfold xH at I;rw[bV,dE]at I;have h:=aT.1 I.2 i (cJ.2 (O1 I.1));unfold vH at h;rw[eT,bV,dE,dE,dE]at h;exact h
def qG3(K:xH ps (E bs)):∀n l,E bs-l<=n->l<E bs->v∈U bs l []->∃t,l<=t/\t<E bs/\xI v bs ps t
 |0,l,h1,I,_=>Oo
 |n+1,l,h1,I,hv=>by
  by_cases e:xI v bs ps l=true;exact⟨l,eA,I,e⟩;have M:0<=U ps l 0/\v∈U bs (U ps l 0).toNat []:=by
   refine eV λO=>e ?_;unfold xI;rw[fD hv,dG,eY,pD,aP,aP];exact sQ.1 O
  rcases qBL K I with V|V;omega;have⟨t,h4,h5⟩:=qG3 K n (U ps l 0).toNat Oo Oo M.2;exact⟨t,Oo,h5⟩
def xO(ps:LI)(m i:Nat):Nat:=if U ps i 0<0 then m else (U ps i 0).toNat
def vC(I:xH ps (E bs)):∀i,i<E bs->i<xO ps (E bs) i/\xO ps (E bs) i<=E bs:=λi hi=>by
 unfold xO;rcases qBL I hi with h|h;rw[fE Oo];omega;rw[fF Oo];omega
def qJW(hb:yf k bs)(hp:xH ps (E bs))(V:uK k bs ps):∀j,j<E bs->∀l,j<l->l<=E bs->∀v,v∈U bs j []->v∈U bs l []->v∈U bs (xO ps (E bs) j) []:=λj hj l a3 hl v h1 K=>by
 have M:l<E bs:=by
  rcases dL l (E bs) with h|h;exact h;rw[gD,gN h]at K;cases K
 refine eV λhc=>?_;have e:xI v bs ps j:=by
  unfold xI;rw[fD h1,dG,eY,pD,aP,aP];refine sQ.1 λh3=>hc ?_;unfold xO;rw[fF Oo];exact h3.2
 have⟨t,h3,h4,h5⟩:=qG3 hp (E bs) l Oo M K;have h6:=JE (show j<t by omega) h4 e h5;unfold yf at hb;rw[bV,aT]at hb;have I:=hb.2 _ (qz (d:=[]) hj);unfold xU at I;rw[bV,bV]at I;have⟨h8,h9⟩:=Qf I.1.2 I.2 h1;unfold uK at V;have O:=aN (aT.1 V v.toNat (cJ.2 Oo));rw[show((v.toNat:Nat):Int)=v by omega]at O;omega
end
def AnJ(tl:List TbV)(f:Int->Int):Prop:=∀t∈tl,t.e.map f∈t.x
def xL(h:0<=zK tl o):okJ tl o/\qO tl o=lvJ tl o (E o):=by
 unfold zK at h;unfold qO;by_cases e:(okJ tl o&&smJ tl o (E o))=true;rw[fE e];rw[bV]at e;exact⟨e.1,rfl⟩;rw[fF e]at h;omega
def QH(h:okJ tl o):E tl<=8/\(∀t∈tl,qW t)/\jd tl o:=by
 unfold okJ at h;rw[bV,bV,dE,aT]at h;exact⟨h.1.1,h.1.2,h.2⟩
def jz(h:okJ tl o)(ho:o.Pairwise (·< ·)):qDx tl o:=by
 obtain⟨-,K,M⟩:=QH h;refine⟨ho,YQ M,λt I=>?_,λt I=>(qL (K t I)).2.2⟩;have O:=(qL (K t I)).1;refine⟨xK O,λx V=>(xp.1 M).subset ?_⟩;have⟨h4,h5⟩:=XM O V;refine y7.2 ⟨x.toNat,Oo,?_,Oo⟩;unfold qp;exact any_eq_true.2 ⟨t,I,fD (by rw[show((x.toNat:Nat):Int)=x by omega];exact V)⟩
def row_one(h:0<=zK tl o)(hs:qb o):OneT ⟨o,qO tl o,zJ (E (qO tl o))⟩ o:=by
 refine⟨rfl,hs,y8.1,?_,?_,rfl⟩;rw[(xL h).2];exact qIB;rw[(xL h).2];exact jx
section
variable {k:Int} {tl:List TbV} {bs:LL} {ps hs:LI} {ws:LP} {x:Int×Int}
def qC3(h:0<=bgV tl b)(hs:qb b)f:b.map f∈bgR tl b↔∀t∈tl,hasB b t->∃r∈t.x,qQ t.e (shr t.e b) r=(shr t.e b).map f:=by
 have⟨M,O⟩:=xL h;show b.map f∈qO (yZ tl b) b↔_;rw[O,vz (jz M (xK hs))];have e:∀t,(prT b t).e.map f∈(prT b t).x↔∃r∈t.x,qQ t.e (shr t.e b) r=(shr t.e b).map f:=λt=>by
  show _∈srt _↔_;rw[(zQ _ _ eA).2,cC];exact sJ
 constructor;exact λI t K hb=>(e t).1 (I _ (dF (cK.2 ⟨K,hb⟩)));intro I t K;obtain⟨s,hs,rfl⟩:=cC.1 K;have⟨V,h5⟩:=cK.1 hs;exact(e s).2 (I s V h5)
def woJ(tl:List TbV):List TbV:=tl.filter λt=>oD (E t.e=0)
def yt(tl:List TbV):LL:=qO (woJ tl) []
def ZA(tl:List TbV):TbV:=⟨[],yt tl,zJ (E (yt tl))⟩
def qBM(h:∀t∈tl,qW t)(hl:E tl<=8):0<=zK (woJ tl) []:=by
 have e:okJ (woJ tl) []:=by
  unfold okJ;rw[bV,bV,dE,aT];refine⟨⟨bM (dH _ _) hl,λt I=>h t (cK.1 I).1⟩,xp.2 ?_⟩;have O:vrJ (woJ tl)=[]:=by
   refine eq_nil_iff_forall_not_mem.2 λx V=>?_;obtain⟨i,-,K,-⟩:=y7.1 V;unfold qp at K;have⟨t,I,M⟩:=any_eq_true.1 K;have h3:=dV.1 (aN (cK.1 I).2);rw[dE,h3]at M;cases M
  rw[O]
 rw[(vY e).2];have e3:smJ (woJ tl) [] (E ([]:LI)):=rfl;rw[fE e3];omega
def ZB(h:∀t∈tl,qW t)(hl:E tl<=8)f:[]∈yt tl↔∀t∈tl,E t.e=0->t.e.map f∈t.x:=by
 have⟨M,O⟩:=xL (qBM h hl);unfold yt;rw[O];refine(vz (jz M iO) f).trans ⟨λI t K V=>I t (cK.2 ⟨K,fD V⟩),λI t K=>?_⟩;have⟨h4,h5⟩:=cK.1 K;exact I t h4 (aN h5)
def ZC(tl:List TbV)(bs:LL)(i:Nat):LL:=if i<E bs then bgR tl (U bs i []) else yt tl
def ZD(tl:List TbV)(bs:LL):List TbV:=bs.map (bgT tl)++[ZA tl]
def qC4(hi:i<E bs):U (ZD tl bs) i qA=bgT tl (U bs i []):=by
 unfold ZD;rw[gD,aL (by rw[lM];exact hi),bK,gE hi,gdR hi];rfl
def qBN:U (ZD tl bs) (E bs) qA=ZA tl:=by
 unfold ZD;rw[gD,bQ (by rw[lM];exact eA),lM,iV];rfl
def yu{α:Type}{l:List α}{d}(h:E l<=i):U l i d=d:=by
 rw[gD,gN h];rfl
def Z6(h:qc k tl bs ps hs ws x):yf k bs/\xH ps (E bs)/\uK k bs ps/\yp hs (tl.map TbV.e) bs:=by
 unfold qc zX at h;rw[bV,bV,bV,bV,bV,bV]at h;obtain⟨-,⟨⟨⟨⟨-,I⟩,K⟩,M⟩,O⟩,-⟩:=h;exact⟨I,K,M,O⟩
def qID(h:qc k tl bs ps hs ws x)i:(U bs i []).Pairwise (·< ·):=by
 rcases dL i (E bs) with hi|hi;exact xK ((zR h).2.2.2.2 i hi).2;rw[yu hi];exact iO
def VX(h:qc k tl bs ps hs ws x)(hv:∀i,i<E bs->0<=bgV tl (U bs i []))f:(∀l,l<=E bs->(U bs l []).map f∈ZC tl bs l)↔AnJ tl f:=by
 have⟨h0,h1,h2,h3,h4⟩:=zR h;have V:=λt I=>aT.1 h0 t I;constructor
 .intro hl t I;by_cases e:E t.e=0;have K:=hl _ eA;unfold ZC at K;rw[fF Oo,yu eA]at K;exact(ZB V Oo f).1 K t I e;obtain⟨i,hi,rfl⟩:=gO I;have K:=(Z6 h).2.2.2;unfold yp at K;rw[bV]at K;have h6:=aT.1 K.2 i (cJ.2 (by rw[lM];exact hi));have e3:U (tl.map TbV.e) i []=tl[i].e:=by rw[gdR (by rw[lM];exact hi),fB]
  unfold zm at h6;rw[e3,fF e,bV,bV,dE,dE,aT]at h6;have⟨⟨h7,h8⟩,h9⟩:=h6;generalize (U hs i 0)=g at *;have M:=hl g.toNat Oo;unfold ZC at M;rw[fE Oo,qC3 (hv _ Oo) (h4 _ Oo).2]at M;have e4:shr tl[i].e (U bs g.toNat [])=tl[i].e:=filter_eq_self.2 λy hy=>h9 y hy;have⟨r,hr,e5⟩:=M _ I (by unfold hasB;rw[e4];exact fD Oo);rw[e4]at e5;have O:=qL (V _ I);rw[show qQ tl[i].e tl[i].e r=r from jy (xK O.1) (O.2.2 r hr)]at e5;rw[<-e5];exact hr
 intro hA l hl;unfold ZC;by_cases e:l<E bs;rw[fE e,qC3 (hv _ e) (h4 _ e).2];exact λt I _=>⟨_,hA t I,US (xK (qL (V t I)).1) (λy hy=>zu hy) f⟩;rw[fF e,yu Oo];exact(ZB V Oo f).2 λt I _=>hA t I
def qFC(h:qc k tl bs ps hs ws x)(hv:∀i,i<E bs->0<=bgV tl (U bs i [])):RdS (E bs) (λi=>U bs i []) (ZC tl bs) (AnJ tl) (ZD tl bs):=by
 have⟨M,h1,h2,h3,O⟩:=zR h;have K:∀i,i<=E bs->(U (ZD tl bs) i qA).x=ZC tl bs i:=λi hi=>by
  unfold ZC;by_cases e:i<E bs;rw[fE e,qC4 e];rfl;rw[fF e,show i=E bs by omega,qBN];rfl
 refine⟨by unfold ZD;rw[lA,lM];rfl,λi hi=>?_,λi hi r I=>by rw[<-K i hi];exact I,λf hf i hi=>by rw[K i hi];exact(VX h hv f).2 hf i hi⟩;by_cases e:i<E bs;rw[qC4 e];exact row_one (hv i e) (O i e).2;rw[show i=E bs by omega,qBN];rw[yu eA];exact row_one (qBM (λt ht=>aT.1 M t ht) Oo) rfl
def uO k:(upR k).Pairwise (·< ·):=pairwise_map.2 (pairwise_lt_range.imp λh=>Int.ofNat_lt.2 h)
def uw{k y}:y∈upR k↔0<=y/\y<k:=by
 unfold upR;rw[cC];constructor;rintro⟨i,hi,rfl⟩;have:=cJ.1 hi;show(0:Int)<=i/\(i:Int)<k;omega;exact λh=>⟨y.toNat,cJ.2 Oo,by show((y.toNat:Nat):Int)=y;omega⟩
def qBO{k}(h:i<k):U (upR k) i 0=(i:Int):=by
 rw[gdR (by rw[zO];exact h)];unfold upR;rw[fB,getElem_range];rfl
def qJi(h:qc k tl bs ps hs ws x):okJ tl (upR k.toNat):=by
 have⟨h0,I,h2,h3,h4⟩:=zR h;obtain⟨k0,k6,-⟩:=xA I;unfold xN at I;rw[bV,bV,aT,aT]at I;obtain⟨⟨-,h5⟩,h6⟩:=I;unfold okJ;rw[bV,bV,dE];refine⟨⟨Oo,h0⟩,xp.2 ?_⟩;unfold vrJ;rw[J2 (qAu (qp tl) 6) (uO k.toNat) λy=>?_];rw[uw,y7];constructor;rintro⟨i,hi,M,rfl⟩;unfold qp at M;have⟨t,K,h8⟩:=any_eq_true.1 M;have O:=Qf (qL (aT.1 h0 t K)).1 (h5 _ (dF K)) (aN h8);omega;rintro⟨M,h8⟩;refine⟨y.toNat,Oo,?_,Oo⟩;have O:=h6 y.toNat (cJ.2 Oo);unfold zr at O;have⟨e,he,V⟩:=any_eq_true.1 O;obtain⟨t,K,rfl⟩:=cC.1 he;unfold qp;exact any_eq_true.2 ⟨t,K,V⟩
def qM(b p:LI):LI:=b.map λv=>U p v.toNat 0
def rdR(k:Int)(tl:List TbV)(b:LI):LL:=srt ((qO tl (upR k.toNat)).map (qM b))
def rdT(k:Int)(tl:List TbV)(b:LI):TbV:=⟨b,rdR k tl b,zJ (E (rdR k tl b))⟩
end
def QC(h:Bl A X){o}:Bl A (S X o):=h.alloc h.size o
def ISSn(w:oX)(v:oV)(ls:LL):Prop:=∃a cap,v=Z a (E ls) cap/\(E ls=0\/∃b o,a=Q (az b o)/\∀j,j<E ls->∃ad c,eQ w (az b (o+j))=Q (Z (Q ad) (E (U ls j [])) c)/\IS w (Z (Q ad) (E (U ls j [])) c) (U ls j []))
def ISSn.iss(h:ISSn w v ls):ISS w v ls:=by
 have⟨a,cap,e,I⟩:=h;refine⟨a,cap,e,?_⟩;rcases I with I|⟨b,o,K,I⟩;exact .inl I;refine .inr ⟨b,o,K,λj M=>?_⟩;have⟨ad,c,O,V⟩:=I j M;exact⟨_,O,V⟩
def RQ.issn{us}(h:RQ W B v us ls)(hp:∀i,i<E ls->0<E (U ls i [])):ISSn W v ls:=by
 obtain⟨a,cap,e,-⟩:=h.rs.sl;refine⟨a,cap,e,?_⟩;by_cases h0:E ls=0;exact .inl h0;obtain⟨g,O,I,-,-⟩:=h.get (i:=0) Oo;rw[e]at I;simp only[vI]at I;refine .inr ⟨g,0,I.1,λj K=>?_⟩;obtain⟨g2,V,M,-,hc⟩:=h.get K;rw[e]at M;simp only[vI]at M;have hg:g2=g:=by have:=M.1.symm.trans I.1;simpa using this
 subst hg;have ho:=h.l j K;obtain⟨g3,c3,e3,-⟩:=xg ho (hp j K);refine⟨az g3 0,c3,by rw[cU,hc,e3],?_⟩;have:=qN ho;rwa[e3]at this
def qJg{M}(h:IS w (Z (Q M) n c) l):∀j u,(l.map ai)[j]?=Q u->w.cell? (M.add j)=Q u:=λj u I=>by
 have O:j<E l:=by
  rcases dL j (E l) with h|h;exact h;rw[gN (by simpa using h)]at I;cases I
 have⟨a',c',e,K⟩:=h;simp only[vI]at e;rcases K with h0|⟨b,o,V,K⟩;omega;have e2:=eU (e.1.trans V);rw[e2,show(((az b o):Addr).add j)=(az b (o+j))by unfold Addr.add;split <;> simp_all,K j O,<-I,bK,gD,gE O];rfl
def ISds.zz{ss}(h:ISds W v ss)(hb:Bl W W'):ISds W' v ss:=by
 have⟨a,cap,e,I⟩:=h;refine⟨a,cap,e,I.imp id ?_⟩;rintro⟨b,o,K,M⟩;exact⟨b,o,K,λj O=>(M j O).zz hb⟩
def nxL(f:LI->LI)(L:LL)(i:Nat):LL:=(L.take i).flatMap λq=>(f q).map λv=>q++[v]
def qGI(hi:i<E L):nxL f L (i+1)=nxL f L i++(f (U L i [])).map λv=>U L i []++[v]:=by
 unfold nxL;rw[tA,gE hi,dM,gD,gE hi];simp
def qJH:E (nxL f L i)<=E (L.flatMap λq=>(f q).map λv=>q++[v]):=by
 have e:L.flatMap (λq=>(f q).map λv=>q++[v])=nxL f L i++(L.drop i).flatMap λq=>(f q).map λv=>q++[v]:=by
  unfold nxL;rw[<-dM,tD]
 rw[e,lA];omega
def mxL(q:LI)(xs:LI)(m:Nat):LL:=(xs.take m).map λv=>q++[v]
def qGJ(h:m<E xs):mxL q xs (m+1)=mxL q xs m++[q++[U xs m 0]]:=by
 unfold mxL;rw[qy h,mA];rfl
def qHx(h:m<=E xs):E (mxL q xs m)=m:=by
 unfold mxL;rw[lM,bZ];omega
def vd b p:E (qM b p)=E b:=lM _
def qBP w{p}(hv:IS w vv p)(hw:∃a n c,vw=Z a n c)(hb:IS w vb b)(hl:E b<=1000)(a4:∀y∈b,0<=y/\y<E p):
 Cl 45 #[aQ #[vv,vw],vb] w λe w'=>∃v,e=rE v/\oW w' (J w.1) 3 1 v (E b) ((qM b p).map ai)/\Bl w w':=by
 obtain⟨aw,nw,cw,rfl⟩:=hw;obtain⟨ar,K,rfl,a5⟩:=hv;obtain⟨ap,d1,rfl,a6⟩:=hb;have⟨M,I⟩:=Ex (S (aJ w #[Z ar (E p) K,Z aw nw cw] 82) (eZ #[] 3));have a7:Hh (Bl w M):=(by rw[I];exact(aK).alloc Ss _);have a8:Hh (∀W,Below (J w.1+1) M W->aC W (J w.1) 0 (Z ar (E p) K)):=λW hW=>by
  have h1:aC M (J w.1) 0 (Z ar (E p) K):=by
   rw[I];exact((aK).cell Ss).trans (by rw[eH rfl];rfl)
  exact(hW.cell (by show J w.1<J w.1+1;omega)).trans h1
 have a9:Hh (M.ownsRow (J w.1+1) 3 1 (sZ (J w.1+1) 0 0 0) 0 []):=(by
  have h1:=oM (base:=J w.1+1) (aJ w #[Z ar (E p) K,Z aw nw cw] 82) (#[]) 0 (e:=3) (size:=1) Ss Dd rfl;rw[I];rw[aM]at h1;exact h1)
 have old:∀{W:oX},Below (J w.1+1) M W->∀{a:Addr} {u:oV},w.cell? a=Q u->W.cell? a=Q u:=λ{W} hW {a u} h=>by
  have h1:=bL w _ h;exact(hW.cell Oo).trans (qF a7 h)
 have HC:Hh (∀W,Below (J w.1+1) M W->∀j,j<E b->∃(bb o q br oo:Nat),ap=Q (az bb o)/\ar=Q (az br oo)/\q<E p/\aC W bb (o+j) (ai (q:Int))/\aC W br (oo+q) (ai (U p q 0))/\U b j 0=(q:Int)):=λW hW j hj=>by
  have⟨h0,h1⟩:=a4 _ (qz (d:=0) hj);have e:U b j 0=((U b j 0).toNat:Int):=Oo;rcases a6 with h2|⟨bb,o,rfl,h2⟩;omega;rcases a5 with h3|⟨br,oo,rfl,h3⟩;omega;refine⟨bb,o,(U b j 0).toNat,br,oo,rfl,rfl,Oo,?_,?_,e⟩;rw[<-e];exact old hW (h2 j hj);exact old hW (h3 _ Oo)
 have HP:Hh (∀j q,j<E b->U b j 0=((q:Nat):Int)->(qM (b.take (j+1)) p).map ai=(qM (b.take j) p).map ai++[ai (U p q 0)]):=λj q hj e=>by
  unfold qM;rw[tA,gE hj,mA,mA];rw[gdR hj]at e;simp[e]
 have b1:Hh ((qM (b.take 0) p).map ai=[]):=rfl;have b7:Hh (qM (b.take (E b)) p=qM b p):=ay (by rw[tL]);have hsz:J w.1+1<=M.1.size:=by rw[I];simp
 have⟨n,hn⟩:=Ex (E b);have⟨nr,b8⟩:=Ex (E p);rw[<-hn]at HC HP b7 hl |-;rw[<-b8]at HC a8 I |-;clear hn b8;go_enter func45,ntmps45;go_upto_region 2 with fail;rw[<-I];clear I;go_wp2;go_loopw [5,11] (λu t wr=>∃(j:Nat) (vo:oV),j<=n/\t=ai j/\vo=u/\Hh (oW wr (J w.1+1) 3 1 vo j ((qM (b.take j) p).map ai)/\Below (J w.1+1) M wr)) (λ_ t _=>n-(intOf t).toNat);exact⟨0,_,nZ _,rfl,rfl,ay ⟨b1.o▸a9,eB⟩⟩;obtain⟨j,vo,hj,rfl,rfl,V⟩:=hrel;by_cases b9:j<n
 .have i1:=aV b9;have⟨bb,o,q,br,oo,ea,eb,hq,e1,e2,e3⟩:=HC _ V.2 j b9;subst ea eb;have x0:=a8 _ V.2;have d0:=ay (HP j q b9 e3);have d4:=V.2.size;generalize U p q 0=y at *;go_wp2_with (at_builtin;refine apL rfl rfl tU Tryz.infoInt (V.o.1.alloc _) rfl rfl (qH _ _ _) Sy ?_;intro g3 cp3 w4 a3 O d2 d3);go_roundw;exact⟨j+1,_,Oo,Gg,rfl,ay ⟨d0.o▸a3,(V.2.alloc Oo _).grown O Sy (λq hq=>(V.1.lt q hq).1)⟩⟩;exact Im
 obtain rfl:j=n:=Oo;go_wp2;go_ret;have h2:=V.1;rw[b7.o]at h2;exact⟨_,rfl,qE h2 Oo,a7.o.trans (V.2.mono Oo)⟩
end
section
variable {l ws:LP}{g j lo n q I s:Nat}{v0 v1 v2 v3 v u0 u1 v4 v5 v' u2 u3:oV}{W W' w w':oX}{R R':Nat->oV->oV->Prop}{bs:LL}{ps hs:LI}
structure HalfP(W:oX)(g n j:Nat)(R:Nat->oV->oV->Prop):Prop where
 any:∀q,q<n*2->∃u,eQ W (az g q)=Q u
 L:∀q,q<n*2->W.frozen? (az g q)=nF
 pair:∀i,i<j->∃u0 u1,eQ W (az g (i*2))=Q u0/\eQ W (az g (i*2+1))=Q u1/\R i u0 u1
def HalfP.zz(h:HalfP W g n j R)(I:g<J W.1)(hb:Bl W W')(K:∀i u0 u1,i<j->R i u0 u1->R' i u0 u1):HalfP W' g n j R':=
 ⟨λq hq=>by obtain⟨u,M⟩:=h.any q hq;exact⟨u,(hb.cell I).trans M⟩,λq hq=>(hb.frozen I).trans (h.L q hq),λi hi=>by
  have⟨u0,u1,O,V,h2⟩:=h.pair i hi;exact⟨u0,u1,(hb.cell I).trans O,(hb.cell I).trans V,K i _ _ hi h2⟩⟩
def qBj(h:∃u,eQ W (az g q)=Q u):∃u,eQ (sW W (az g I) v) (az g q)=Q u:=by
 have⟨u,K⟩:=h;by_cases e:q=I;subst e;exact⟨v,eJ K⟩;exact⟨u,(eE (by intro M;simp only[aI]at M;omega)).trans K⟩
def HalfP.P(h:HalfP W g n j R)(hj:j<n)(I:∀i a b,i<j->R i a b->R' i a b)(K:R' j u0 u1):
 HalfP (sW (sW W (az g (j*2)) u0) (az g (j*2+1)) u1) g n (j+1) R' where
 any q hq:=qBj (qBj (h.any q hq))
 L q hq:=by rw[fS,fS];exact h.L q hq
 pair i hi:=by
  have ne:∀(X:oX) (a b:Nat) (v:oV),a≠b->eQ (sC X g b v) (az g a)=eQ X (az g a):=λX a b v hab=>eE (by intro M;simp only[aI]at M;omega);by_cases e:i=j
  .subst e;have⟨x0,c0⟩:=h.any (i*2) Oo;have⟨x1,c1⟩:=h.any (i*2+1) Oo;refine⟨u0,u1,?_,?_,K⟩;rw[ne _ _ _ _ Oo];exact eJ c0;exact eJ ((ne _ _ _ _ Oo).trans c1)
  have⟨a,b,O,V,h2⟩:=h.pair i Oo;exact⟨a,b,by rw[ne _ _ _ _ Oo,ne _ _ _ _ Oo];exact O,by rw[ne _ _ _ _ Oo,ne _ _ _ _ Oo];exact V,I i a b Oo h2⟩
structure IPl(w:oX)(v0 v1 v2 v3:oV)(bs:LL)(ps hs:LI)(ws:LP):Prop where
 b:ISS w v0 bs
 p:IS w v1 ps
 h:IS w v2 hs
 d:IR w v3 ws
def IPl.zz(h:IPl w v0 v1 v2 v3 bs ps hs ws)(hb:Bl w w'):IPl w' v0 v1 v2 v3 bs ps hs ws:=
 ⟨h.b.zz hb,h.p.zz hb,h.h.zz hb,h.d.zz hb⟩
def IRb(w:oX)(g:Nat)(l:LP):Prop:=(∀j,j<E l->eQ w (az g (j*2))=Q (ai (U l j (0,0)).1)/\eQ w (az g (j*2+1))=Q (ai (U l j (0,0)).2))/\∀q,q<E l*2->w.frozen? (az g q)=nF
def IRb.A(h:IRb w g l)(hb:w'.1[g]?=w.1[g]?):IRb w' g l:=
 ⟨λj I=>⟨(bF hb).trans (h.1 j I).1,(bF hb).trans (h.1 j I).2⟩,λq hq=>by have:=h.2 q hq;unfold World.frozen? at this |-;rw[hb];exact this⟩
def IRb.ir(h:IRb w g l):IR w (sZ g 0 (E l) (E l)) l:=
 ⟨_,_,rfl,.inr ⟨g,0,rfl,λj I=>by rw[cU];exact h.1 j I⟩⟩
def IRb.sh(h:IRb w g l)(K:lo<=g)(I:g<J w.1):ShI lo (J w.1) w g (E l*2):=⟨K,I,I,λj M=>by
 rcases Nat.mod_two_eq_zero_or_one j with e|e;have:=(h.1 (j / 2) Oo).1;rw[show j / 2*2=j by omega]at this;exact⟨_,this⟩;have:=(h.1 (j / 2) Oo).2;rw[show j / 2*2+1=j by omega]at this;exact⟨_,this⟩,h.2⟩
def Half.shss{ls f}(h:Half w g (E ls) (E ls) ls f)(K:lo<=g):ShSS lo (J w.1) w g (E ls) (λj=>E (U ls j [])):=λj I=>by
 have e:=h.cell j I;rw[fE I]at e;have M:=h.gt j I;exact⟨f j,e,(h.z j I).sh Oo (h.z j I).lt⟩
def OwnI.shE{l}(h:OwnI W g l)(I:lo<=g):ShI lo (J W.1) W g (E l):=h.sh I h.lt
def qA4(h:IR w v l)(hl:E l<=1048576):
 aF 31 #[v] w (sZ (J w.1) 0 (E l) (E l)) λw'=>IRb w' (J w.1) l/\J w.1<J w'.1/\Bl w w':=by
 have⟨i0,hi,b9,c7,c8⟩:=aX Tryz.infoRatS;obtain⟨a,cap,rfl,hc⟩:=h;have⟨n,hn⟩:=Ex (E l);change Hh _ at hc hn;rw[<-hn]at hc hl |-;go_enter func31,ntmps31;go_wp2_with (at_make;refine rL _ rfl _ _ 36 rfl _ 37 _ _ 2 underlying36 hi b9 c7 _ _ _ _ n rfl rfl rfl rfl ?b2 ?b3 eA ?_)
 case b2=>rw[c8];omega
 case b3=>unfold maxLen;omega
 intro w0 I M;have a4:J w.1<J w0.1:=(I.lt _ rfl).2;have a9:HalfP w0 (J w.1) n 0 (λi a b=>a=ai (U l i (0,0)).1/\b=ai (U l i (0,0)).2):=⟨λq hq=>by
  rw[I.cellAt q hq];exact⟨_,gE (by rw[I.1];exact hq)⟩,λq _=>I.frozenAt q,λi hi=>Oo⟩
 have b1:=ay (And.intro (eB.grown M eA (λj hj=>by cases hj)) (And.intro a4 a9));clear I M a4 a9;go_wp2;go_loopw [4] (λt wr=>∃j:Nat,j<=n/\t=ai j/\Hh (Bl w wr/\J w.1<J wr.1/\HalfP wr (J w.1) n j (λi a b=>a=ai (U l i (0,0)).1/\b=ai (U l i (0,0)).2))) (mZ n);exact⟨0,eC,rfl,b1⟩;clear b1;obtain⟨j,hj,rfl,hH⟩:=hrel;have⟨O,a5,V⟩:=hH.o;by_cases b7:j<n
 .have i1:=aV b7;rcases hc.o with h0|⟨b,o,rfl,hrel⟩;omega;have⟨a6,a7⟩:=hrel j b7;have c0:=(O.cell (bL w _ a6)).trans a6;have c1:=(O.cell (bL w _ a7)).trans a7;have c9:=ay O;have b8:=ay V;have a3:Hh (∀W,Bl wr W->HalfP (sW (sC W (J w.1) (j*2) (ai (U l j (0,0)).1)) (az (J w.1) (j*2+1)) (ai (U l j (0,0)).2)) (J w.1) n (j+1) (λi a b=>a=ai (U l i (0,0)).1/\b=ai (U l i (0,0)).2)):=λW hb=>
   (b8.o.zz a5 hb (λ_ _ _ _ h=>h)).P b7 (λ_ _ _ _ h=>h) ⟨rfl,rfl⟩
  clear hH O V hrel a6 a7;have⟨s,hs⟩:=Ex ((U l j (0,0)).1);have⟨d,hd⟩:=Ex ((U l j (0,0)).2);rw[<-hs]at c0 a3;rw[<-hd]at c1 a3;clear hs hd;go_wp2_with fail;apply (Xx s d wr).mn;intro w2 hb;have K:=b8.o.zz a5 hb (λ_ _ _ _ h=>h);have⟨u0,d0⟩:=K.any (j*2) Oo;have⟨u1,d1⟩:=K.any (j*2+1) Oo;have f0:=K.L (j*2) Oo;have f1:=K.L (j*2+1) Oo;have HF:=ay (a3 _ hb);have d2:=ay (bt c9 hb);have hs2:=hb.size;clear K hb a3 c0 c1;go_wp2;go_roundw;exact⟨j+1,Oo,Gg,ay ⟨(d2.o.setCell eA _).setCell eA _,by simp[World.setCell];omega,HF⟩⟩;exact Im
 obtain rfl:j=n:=Oo;have i1:=aY j;have HX:=ay (And.intro V (And.intro a5 O));clear hH O V;go_wp2;go_ret;refine⟨rfl,⟨λi hi=>?_,λq hq=>HX.o.1.L q (by rw[hn.o];exact hq)⟩,HX.o.2.1,HX.o.2.2⟩;obtain⟨u0,u1,h0,h1,rfl,rfl⟩:=HX.1.pair i (by rw[hn.o];exact hi);exact⟨h0,h1⟩
def qA5 w(a:OA)cap left(K:0<=left)(M:left<=1048576)(O:n<=9223372036854775807):
 aF 24 #[Z a n cap,ai left] w (ai (if left<n then -1 else left-n)) λw'=>w'=w:=by
 by_cases h:left<n
 .rw[fE h];have I:left-(n:Int)<0:=Oo;go_enter func24,ntmps24;go_wp2;go_ret;exact⟨rfl,rfl⟩
 rw[fF h];have I:¬(left-(n:Int)<0):=Oo;go_enter func24,ntmps24;go_wp2;go_ret;exact⟨rfl,rfl⟩
structure B6(s:Nat)(v0 v1 v2 v3 v4 v5:oV)(W:oX):Prop where
 c0:eQ W (az s 0)=Q v0
 c1:eQ W (az s 1)=Q v1
 c2:eQ W (az s 2)=Q v2
 c3:eQ W (az s 3)=Q v3
 c4:eQ W (az s 4)=Q v4
 c5:eQ W (az s 5)=Q v5
def B6.P(h:B6 s v0 v1 v2 v3 v4 v5 W)(hb:Bl W W'):B6 s v0 v1 v2 v3 v4 v5 W':=
 ⟨qF hb h.c0,qF hb h.c1,qF hb h.c2,qF hb h.c3,qF hb h.c4,qF hb h.c5⟩
def B6.zv(w:oX)v0 v1 v2 v3 v4 v5 t:B6 (J w.1) v0 v1 v2 v3 v4 v5 (S w (eZ #[v0,v1,v2,v3,v4,v5] t)):=
 ⟨by rw[eH rfl];rfl,by rw[eH rfl];rfl,by rw[eH rfl];rfl,by rw[eH rfl];rfl,by rw[eH rfl];rfl,by rw[eH rfl];rfl⟩
def qA6{ls}(h:ISS w v ls)(I:ISS w v' ls)(hl:qS ls):
 aG 11 #[v,v'] w (oB true):=
 (jZ w v h I hl).mono (by
  rintro e w' ⟨rfl,m,rfl⟩;exact⟨rfl,rB eB _⟩)
structure W6(s:Nat)v0 v1 v2 v3 v4 v5 W:Prop extends B6 s v0 v1 v2 v3 v4 v5 W where
 f0:W.frozen? (az s 0)=nF
 f1:W.frozen? (az s 1)=nF
 f2:W.frozen? (az s 2)=nF
 f3:W.frozen? (az s 3)=nF
 f4:W.frozen? (az s 4)=nF
 f5:W.frozen? (az s 5)=nF
section
variable {s:Nat} {v0 v1 v2 v3 v4 v5:oV} {W W':oX}
def W6.A(h:W6 s v0 v1 v2 v3 v4 v5 W)(hb:W'.1[s]?=W.1[s]?):W6 s v0 v1 v2 v3 v4 v5 W' :=by
 obtain⟨⟨⟩⟩:=h;constructor;constructor;all_goals first|exact(bF (w:=W) hb).trans ‹_›|exact(dA (w:=W) hb).trans ‹_›
def W6.lt(h:W6 s v0 v1 v2 v3 v4 v5 W):s<J W.1:=bL W _ h.c0
def W6.zz(h:W6 s v0 v1 v2 v3 v4 v5 W)(hb:Bl W W'):W6 s v0 v1 v2 v3 v4 v5 W':=h.A (hb.block _ h.lt)
def W6.new(w:oX)v0 v1 v2 v3 v4 v5 t:W6 (J w.1) v0 v1 v2 v3 v4 v5 (S w (eZ #[v0,v1,v2,v3,v4,v5] t)):=
 { B6.zv w _ _ _ _ _ _ t with f0:=eM rfl,f1:=eM rfl,f2:=eM rfl,f3:=eM rfl,f4:=eM rfl,f5:=eM rfl }
def W6.set0(h:W6 s v0 v1 v2 v3 v4 v5 W)u:W6 s u v1 v2 v3 v4 v5 (sW W (az s 0) u) :=by
 obtain⟨⟨⟩⟩:=h;exact Wv
def W6.set1(h:W6 s v0 v1 v2 v3 v4 v5 W)u:W6 s v0 u v2 v3 v4 v5 (sW W (az s 1) u) :=by
 obtain⟨⟨⟩⟩:=h;exact Wv
def W6.set2(h:W6 s v0 v1 v2 v3 v4 v5 W)u:W6 s v0 v1 u v3 v4 v5 (sW W (az s 2) u) :=by
 obtain⟨⟨⟩⟩:=h;exact Wv
def W6.set3(h:W6 s v0 v1 v2 v3 v4 v5 W)u:W6 s v0 v1 v2 u v4 v5 (sW W (az s 3) u) :=by
 obtain⟨⟨⟩⟩:=h;exact Wv
def W6.set4(h:W6 s v0 v1 v2 v3 v4 v5 W)u:W6 s v0 v1 v2 v3 u v5 (sW W (az s 4) u) :=by
 obtain⟨⟨⟩⟩:=h;exact Wv
def W6.set5(h:W6 s v0 v1 v2 v3 v4 v5 W)u:W6 s v0 v1 v2 v3 v4 u (sW W (az s 5) u) :=by
 obtain⟨⟨⟩⟩:=h;exact Wv
def W6.far{c o u}(h:W6 s v0 v1 v2 v3 v4 v5 W)(I:s≠c):W6 s v0 v1 v2 v3 v4 v5 (sW W (az c o) u):=h.A (eG I)
end
def szP(bs:LL)(ps hs:LI)(ws:LP)(left:Int):Int:=if left<tot bs (E bs)+E ps+E hs+E ws then -1 else left-(tot bs (E bs)+E ps+E hs+E ws)
def qA7 w x y left(h:IPl w v0 v1 v2 v3 bs ps hs ws)(hf:Fits bs)(hp:E ps<=9223372036854775807)(hh:E hs<=9223372036854775807)(hw:E ws<=9223372036854775807)(h1:0<=left)(h2:left<=1048576):
 aG 5 #[aQ #[v0,v1,v2,v3,ai x,ai y],ai left] w (ai (szP bs ps hs ws left)):=by
 have I:Hh (Bl w (S w (eZ #[v0,v1,v2,v3,ai x,ai y] 29))):=aK;have V:=ay (B6.zv w v0 v1 v2 v3 (ai x) (ai y) 29);have HI:=ay h;have HF:=ay hf;obtain⟨a0,k0,rfl,-⟩:=h.b;obtain⟨a1,k1,rfl,-⟩:=h.p;obtain⟨a2,k2,rfl,-⟩:=h.h;obtain⟨a3,k3,rfl,-⟩:=h.d;have⟨res,K⟩:=Ex (szP bs ps hs ws left);rw[<-K];have HR:Hh (res=if left<tot bs (E bs)+E ps+E hs+E ws then -1 else left-(tot bs (E bs)+E ps+E hs+E ws)):=K;clear h hf K;have b9:(0:Int)<=tot bs (E bs):=Oo;have⟨W,hW⟩:=Ex (S w (eZ #[Z a0 (E bs) k0,Z a1 (E ps) k1,Z a2 (E hs) k2,Z a3 (E ws) k3,ai x,ai y] 29));rw[<-hW]at I V;have x0:=V.o.c0;go_enter func5,ntmps5;go_upto_region 1 with fail;rw[<-hW];clear hW;go_wp2_with fail;apply (ay (ZK W _ (HI.o.b.zz I) HF h1 h2)).o.mono;rintro e w1 ⟨rfl,hw1⟩;subst w1;have M:Hh (Bl W W):=ay eB;have a4:=ay V.o;rw[show qAZ bs left=(if left<tot bs (E bs) then -1 else left-tot bs (E bs)) from rfl];clear x0;by_cases c1:left<tot bs (E bs)
 .obtain rfl:res=-1:=by rw[HR.o,fE Oo]
  rw[fE c1];go_wp2;go_ret;exact⟨rfl,bt I M⟩
 rw[fF c1];have⟨l1,a5⟩:=Ex (left-tot bs (E bs));rw[<-a5];have g1:¬(l1<0):=Oo;have u1:l1<=1048576:=Oo;have O:=ay a5;clear a5;have x1:=a4.o.c1;go_wp2_with fail;apply (ay (ym W a1 _ k1 l1 Oo Oo hp)).o.mn;intro w2 b1;subst w2;by_cases c2:l1<E ps
 .obtain rfl:res=-1:=by have e1:=O.o;rw[HR.o,fE Oo]
  rw[fE c2];go_wp2;go_ret;exact⟨rfl,bt I M⟩
 rw[fF c2];have⟨l2,a6⟩:=Ex (l1-E ps);rw[<-a6];have g2:¬(l2<0):=Oo;have u2:l2<=1048576:=Oo;have a7:=ay a6;clear a6;have x2:=a4.o.c2;go_wp2_with fail;apply (ay (ym W a2 _ k2 l2 Oo Oo hh)).o.mn;intro w2 b1;subst w2;by_cases c3:l2<E hs
 .obtain rfl:res=-1:=by have e1:=O.o;have e2:=a7.o;rw[HR.o,fE Oo]
  rw[fE c3];go_wp2;go_ret;exact⟨rfl,bt I M⟩
 rw[fF c3];have⟨l3,a8⟩:=Ex (l2-E hs);rw[<-a8];have g3:¬(l3<0):=Oo;have u3:l3<=1048576:=Oo;have b7:=ay a8;clear a8;have x3:=a4.o.c3;go_wp2_with fail;apply (ay (qA5 W a3 k3 l3 Oo Oo hw)).o.mn;intro w2 b1;subst w2;by_cases c4:l3<E ws
 .obtain rfl:res=-1:=by have e1:=O.o;have e2:=a7.o;have e3:=b7.o;rw[HR.o,fE Oo]
  rw[fE c4];go_wp2;go_ret;exact⟨rfl,bt I M⟩
 rw[fF c4];have⟨l4,a9⟩:=Ex (l3-E ws);rw[<-a9];have g4:¬(l4<0):=Oo;have u4:l4<=1048576:=Oo;have b8:=ay a9;clear a9;obtain rfl:l4=res:=by have e1:=O.o;have e2:=a7.o;have e3:=b7.o;have e4:=b8.o;rw[HR.o,fF Oo];omega
 go_wp2;go_ret;exact⟨rfl,bt I M⟩
def qCH w x y(h:IPl w v0 v1 v2 v3 bs ps hs ws)(h':IPl w u0 u1 u2 u3 bs ps hs ws)(hb:qS bs)(hp:E ps<=1099511627776)(hh:E hs<=1099511627776)(hw:E ws<=1099511627776):
 aG 14 #[aQ #[v0,v1,v2,v3,ai x,ai y],aQ #[u0,u1,u2,u3,ai x,ai y]] w (oB true):=by
 have b1:Bl w (S w (eZ #[v0,v1,v2,v3,ai x,ai y] 39)):=aK;have HI:=ay h;have HJ:=ay h';have HS:=ay hb;obtain⟨a0,k0,rfl,-⟩:=h.b;obtain⟨a1,k1,rfl,-⟩:=h.p;obtain⟨a2,k2,rfl,-⟩:=h.h;obtain⟨a3,k3,rfl,-⟩:=h.d;obtain⟨d0,m0,rfl,-⟩:=h'.b;obtain⟨d1,m1,rfl,-⟩:=h'.p;obtain⟨d2,m2,rfl,-⟩:=h'.h;obtain⟨d3,m3,rfl,-⟩:=h'.d;have b7:=B6.zv w (Z a0 (E bs) k0) (Z a1 (E ps) k1) (Z a2 (E hs) k2) (Z a3 (E ws) k3) (ai x) (ai y) 39;obtain⟨W1,a7⟩:=Ex (S w (eZ #[Z a0 (E bs) k0,Z a1 (E ps) k1,Z a2 (E hs) k2,Z a3 (E ws) k3,ai x,ai y] 39));have s1:J W1.1=J w.1+1:=by rw[a7];simp
 have a8:=B6.zv W1 (Z d0 (E bs) m0) (Z d1 (E ps) m1) (Z d2 (E hs) m2) (Z d3 (E ws) m3) (ai x) (ai y) 39;have a9:Bl W1 (S W1 (eZ #[Z d0 (E bs) m0,Z d1 (E ps) m1,Z d2 (E hs) m2,Z d3 (E ws) m3,ai x,ai y] 39)):=aK;rw[<-a7]at b7 b1;obtain⟨W2,b8⟩:=Ex (S W1 (eZ #[Z d0 (E bs) m0,Z d1 (E ps) m1,Z d2 (E hs) m2,Z d3 (E ws) m3,ai x,ai y] 39));rw[<-b8]at a8 a9;rw[s1]at a8;have K:=ay (bt b1 a9);have M:=ay (b7.P a9);have O:=ay a8;have HW:Hh (W2=S (aJ w #[Z a0 (E bs) k0,Z a1 (E ps) k1,Z a2 (E hs) k2,Z a3 (E ws) k3,ai x,ai y] 39) (eZ #[Z d0 (E bs) m0,Z d1 (E ps) m1,Z d2 (E hs) m2,Z d3 (E ws) m3,ai x,ai y] 39)):=ay (by rw[b8,a7]);clear b7 a8 b1 a9 h h' hb a7 b8 s1;have x0:=M.o.c0;have z0:=O.o.c0;go_enter func14,ntmps14;go_upto_region 1 with fail;rw[<-HW.o];clear HW;go_wp2_with fail;apply (ay (qA6 (HI.o.b.zz K) (HJ.o.b.zz K) HS)).o.mn;intro w1 I;have V:=ay I;clear I x0 z0;have x1:=(M.o.P V).c1;have z1:=(O.o.P V).c1;have K1:=ay (QN _ (HI.o.p.zz (bt K V)) (HJ.o.p.zz (bt K V)) hp);go_wp2_with fail;apply K1.o.mn;intro w2 I;have a4:=ay (bt V I);clear I K1 x1 z1;have x1:=(M.o.P a4).c2;have z1:=(O.o.P a4).c2;have K1:=ay (QN _ (HI.o.h.zz (bt K a4)) (HJ.o.h.zz (bt K a4)) hh);go_wp2_with fail;apply K1.o.mn;intro w3 I;have a5:=ay (bt a4 I);clear I K1 x1 z1;have x1:=(M.o.P a5).c3;have z1:=(O.o.P a5).c3;go_wp2_with fail;apply (ay (qCM (HI.o.d.zz (bt K a5)) (HJ.o.d.zz (bt K a5)) hw)).o.mn;intro w4 I;have a6:=ay (bt a5 I);clear I x1 z1;have x1:=(M.o.P a6).c4;have z1:=(O.o.P a6).c4;have x2:=(M.o.P a6).c5;have z2:=(O.o.P a6).c5;go_wp2_with fail;apply (VQ).mn;intro w5 I;go_wp2;go_ret;exact⟨rfl,bt K (bt a6 I)⟩
def Jq w x y(h:IPl w v0 v1 v2 v3 bs ps hs ws)(hb:qS bs)(hp:E ps<=1099511627776)(hh:E hs<=1099511627776)(hw:E ws<=1048576):
 Cl 8 #[aQ #[v0,v1,v2,v3,ai x,ai y]] w λe w'=>∃g0 g1 g2 g3,e=rE (aQ #[sZ g0 0 (E bs) (E bs),sZ g1 0 (E ps) (E ps),sZ g2 0 (E hs) (E hs),sZ g3 0 (E ws) (E ws),ai x,ai y])/\
  IPl w' (sZ g0 0 (E bs) (E bs)) (sZ g1 0 (E ps) (E ps)) (sZ g2 0 (E hs) (E hs)) (sZ g3 0 (E ws) (E ws)) bs ps hs ws/\Bl w w'/\ShSS (J w.1) (J w'.1) w' g0 (E bs) (λj=>E (U bs j []))/\ShI (J w.1) (J w'.1) w' g1 (E ps)/\ShI (J w.1) (J w'.1) w' g2 (E hs)/\ShI (J w.1) (J w'.1) w' g3 (E ws*2):=by
 have HI:=ay h;have HS:=ay hb;obtain⟨a0,k0,rfl,-⟩:=h.b;obtain⟨a1,k1,rfl,-⟩:=h.p;obtain⟨a2,k2,rfl,-⟩:=h.h;obtain⟨a3,k3,rfl,-⟩:=h.d;have⟨W1,a9⟩:=Ex (S w (eZ #[Z a0 (E bs) k0,Z a1 (E ps) k1,Z a2 (E hs) k2,Z a3 (E ws) k3,ai x,ai y] 29));have⟨W2,b7⟩:=Ex (S W1 (eZ #[sn,sn,sn,sn,ai 0,ai 0] 39));have⟨W3,c7⟩:=Ex (S W2 (eZ #[sn,sn,sn,sn,ai 0,ai 0] 39))
 have b2:Bl W1 W2:=by rw[b7];exact(bJ _ _).alloc (nR _) _
 have b3:Bl W2 W3:=by rw[c7];exact(bJ _ _).alloc (nR _) _
 have s1:J W1.1=J w.1+1:=by rw[a9];simp
 have s2:J W2.1=J w.1+1+1:=by rw[b7,a9];simp
 have s3:J W3.1=J w.1+1+1+1:=by rw[c7,b7,a9];simp
 have A:=W6.new w (Z a0 (E bs) k0) (Z a1 (E ps) k1) (Z a2 (E hs) k2) (Z a3 (E ws) k3) (ai x) (ai y) 29;have R:=W6.new W1 sn sn sn sn (ai 0) (ai 0) 39;have O:=W6.new W2 sn sn sn sn (ai 0) (ai 0) 39;rw[<-a9]at A;rw[<-b7,s1]at R;rw[<-c7,s2]at O;have HA:=ay (A.zz (bt b2 b3));have HR:=ay (R.zz b3);have HO:=ay O;have HB:=ay (bt (by rw[a9];exact(bJ _ _).alloc (nR _) _) (bt b2 b3));have HW:Hh (W3=S (S (S w (eZ #[Z a0 (E bs) k0,Z a1 (E ps) k1,Z a2 (E hs) k2,Z a3 (E ws) k3,ai x,ai y] 29)) (eZ #[sn,sn,sn,sn,ai 0,ai 0] 39)) (eZ #[sn,sn,sn,sn,ai 0,ai 0] 39)):=ay (by rw[c7,b7,a9]);clear A R O b2 b3 s1 s2 a9 b7 c7 h hb;have K0:=ay (ZL (HI.o.b.zz HB) HS);have x0:=HA.o.c0;go_enter func8,ntmps8;go_upto_region 2 with fail;rw[<-HW.o];clear HW;go_wp2_with fail;apply K0.o.mono;rintro e w1 ⟨rfl,⟨fH,hH⟩,e4,I⟩;rw[s3]at e4 hH;have z0:=(HO.o.zz I).c0;have z1:=(HO.o.zz I).f0;have d1:=I.size;have⟨G0,d5⟩:=Ex (J w.1+1+1+1);rw[s3,<-d5];rw[s3]at d1;rw[<-d5]at hH e4 d1;have i8:J w.1+1+1<G0:=Oo;clear d5 s3;have⟨V1,a8⟩:=Ex (sW w1 (az (J w.1+1+1) 0) (sZ G0 0 (E bs) (E bs)));have c8:Hh (W6 (J w.1+1+1) (sZ G0 0 (E bs) (E bs)) sn sn sn (ai 0) (ai 0) V1):=(by rw[a8];exact(HO.o.zz I).set0 _);have e5:Hh (W6 (J w.1+1) sn sn sn sn (ai 0) (ai 0) V1):=(by rw[a8];exact(HR.o.zz I).far Oo);have d6:Hh (W6 (J w.1) (Z a0 (E bs) k0) (Z a1 (E ps) k1) (Z a2 (E hs) k2) (Z a3 (E ws) k3) (ai x) (ai y) V1):=(by rw[a8];exact(HA.o.zz I).far Oo);have d7:Hh (Bl w V1):=(by rw[a8];exact(bt HB I).setCell (by show J w.1<=J w.1+1+1;omega) _);have e6:Hh (Half V1 G0 (E bs) (E bs) bs fH):=(by rw[a8];exact hH.set Oo);have i9:G0<V1.1.size:=by rw[a8];simp[World.setCell];omega
 clear I hH K0 x0 HO HR HA HB;go_upto_region 3 with fail;rw[<-a8];clear a8 z0 z1;have x0:=d6.o.c1;have K0:=ay (yH _ _ (HI.o.p.zz d7) hp);go_wp2_with fail;apply K0.o.mono;rintro e w2 ⟨rfl,K,I⟩;have z0:=(c8.o.zz I).c1;have z1:=(c8.o.zz I).f1;have e7:=I.size;have e8:=K.lt;obtain⟨G1,d2⟩:=Ex V1.1.size;have j0:G0<G1:=Oo;rw[<-d2]at K e7 e8 |-;clear d2;obtain⟨V2,a7⟩:=Ex (sW w2 (az (J w.1+1+1) 1) (sZ G1 0 (E ps) (E ps)));have i5:G1<V2.1.size:=by rw[a7];simp[World.setCell];omega
 have c9:Hh (W6 (J w.1+1+1) (sZ G0 0 (E bs) (E bs)) (sZ G1 0 (E ps) (E ps)) sn sn (ai 0) (ai 0) V2):=(by rw[a7];exact(c8.o.zz I).set1 _);have e9:Hh (W6 (J w.1+1) sn sn sn sn (ai 0) (ai 0) V2):=(by rw[a7];exact(e5.o.zz I).far Oo);have d8:Hh (W6 (J w.1) (Z a0 (E bs) k0) (Z a1 (E ps) k1) (Z a2 (E hs) k2) (Z a3 (E ws) k3) (ai x) (ai y) V2):=(by rw[a7];exact(d6.o.zz I).far Oo);have d9:Hh (Bl w V2):=(by rw[a7];exact(bt d7 I).setCell (by show J w.1<=J w.1+1+1;omega) _);have f7:Hh (Half V2 G0 (E bs) (E bs) bs fH):=(by rw[a7];exact(e6.o.zz Oo I).set Oo);have f8:Hh (OwnI V2 G1 ps):=(by rw[a7];exact K.set Oo);clear I K K0 x0 c8 e5 d6 d7 e6;go_upto_region 4 with fail;rw[<-a7];clear a7 z0 z1;have x0:=d8.o.c2;have K0:=ay (yH _ _ (HI.o.h.zz d9) hh);go_wp2_with fail;apply K0.o.mono;rintro e w3 ⟨rfl,K,I⟩;have z0:=(c9.o.zz I).c2;have z1:=(c9.o.zz I).f2;have f9:=I.size;have g4:=K.lt;obtain⟨G2,d3⟩:=Ex V2.1.size;have j1:G1<G2:=Oo;rw[<-d3]at K f9 g4 |-;clear d3;obtain⟨V3,a5⟩:=Ex (sW w3 (az (J w.1+1+1) 2) (sZ G2 0 (E hs) (E hs)));have i6:G2<V3.1.size:=by rw[a5];simp[World.setCell];omega
 have d0:Hh (W6 (J w.1+1+1) (sZ G0 0 (E bs) (E bs)) (sZ G1 0 (E ps) (E ps)) (sZ G2 0 (E hs) (E hs)) sn (ai 0) (ai 0) V3):=(by rw[a5];exact(c9.o.zz I).set2 _);have g5:Hh (W6 (J w.1+1) sn sn sn sn (ai 0) (ai 0) V3):=(by rw[a5];exact(e9.o.zz I).far Oo);have e0:Hh (W6 (J w.1) (Z a0 (E bs) k0) (Z a1 (E ps) k1) (Z a2 (E hs) k2) (Z a3 (E ws) k3) (ai x) (ai y) V3):=(by rw[a5];exact(d8.o.zz I).far Oo);have e1:Hh (Bl w V3):=(by rw[a5];exact(bt d9 I).setCell (by show J w.1<=J w.1+1+1;omega) _);have g6:Hh (Half V3 G0 (E bs) (E bs) bs fH):=(by rw[a5];exact(f7.o.zz Oo I).set Oo);have g7:Hh (OwnI V3 G1 ps):=(by rw[a5];exact(f8.o.zz I).set Oo);have g8:Hh (OwnI V3 G2 hs):=(by rw[a5];exact K.set Oo);clear I K K0 x0 c9 e9 d8 d9 f7 f8;go_upto_region 5 with fail;rw[<-a5];clear a5 z0 z1;have x0:=e0.o.c3;go_wp2_with fail;apply (ay (qA4 (HI.o.d.zz e1) hw)).o.mono;rintro e w4 ⟨rfl,K,g9,I⟩;have z0:=(d0.o.zz I).c3;have z1:=(d0.o.zz I).f3;have h0:=I.size;obtain⟨G3,d4⟩:=Ex V3.1.size;have j2:G2<G3:=Oo;rw[<-d4]at K h0 g9 |-;clear d4;obtain⟨V4,a4⟩:=Ex (sW w4 (az (J w.1+1+1) 3) (sZ G3 0 (E ws) (E ws)));have i7:G3<V4.1.size:=by rw[a4];simp[World.setCell];omega
 have b8:Hh (W6 (J w.1+1+1) (sZ G0 0 (E bs) (E bs)) (sZ G1 0 (E ps) (E ps)) (sZ G2 0 (E hs) (E hs)) (sZ G3 0 (E ws) (E ws)) (ai 0) (ai 0) V4):=(by rw[a4];exact(d0.o.zz I).set3 _);have h1:Hh (W6 (J w.1+1) sn sn sn sn (ai 0) (ai 0) V4):=(by rw[a4];exact(g5.o.zz I).far Oo);have e2:Hh (W6 (J w.1) (Z a0 (E bs) k0) (Z a1 (E ps) k1) (Z a2 (E hs) k2) (Z a3 (E ws) k3) (ai x) (ai y) V4):=(by rw[a4];exact(e0.o.zz I).far Oo);have h2:Hh (Bl w V4):=(by rw[a4];exact(bt e1 I).setCell (by show J w.1<=J w.1+1+1;omega) _);have h3:Hh (Half V4 G0 (E bs) (E bs) bs fH):=(by rw[a4];exact(g6.o.zz Oo I).set Oo);have h4:Hh (OwnI V4 G1 ps):=(by rw[a4];exact(g7.o.zz I).set Oo);have h5:Hh (OwnI V4 G2 hs):=(by rw[a4];exact(g8.o.zz I).set Oo);have h6:Hh (IRb V4 G3 ws):=(by rw[a4];exact K.A (bD _ _ _ _ (by show G3≠J w.1+1+1;omega)));clear I K x0 d0 g5 e0 e1 g6 g7 g8;go_upto_region 6 with fail;rw[<-a4];clear a4 z0 z1;have x0:=e2.o.c4;have x1:=e2.o.c5;go_wp2_with fail;apply (Xx x y V4).mn;intro w5 I;have z0:=(b8.o.zz I).c4;have z1:=(b8.o.zz I).f4;have z2:=(b8.o.zz I).c5;have z3:=(b8.o.zz I).f5;have hsz5:=I.size;obtain⟨V5,a6⟩:=Ex (sW (sC w5 (J w.1+1+1) 4 (ai x)) (az (J w.1+1+1) 5) (ai y));have h7:G3<V5.1.size:=by rw[a6];simp only[size_setCell];exact Oo
 have b9:Hh (W6 (J w.1+1+1) (sZ G0 0 (E bs) (E bs)) (sZ G1 0 (E ps) (E ps)) (sZ G2 0 (E hs) (E hs)) (sZ G3 0 (E ws) (E ws)) (ai x) (ai y) V5):=(by rw[a6];exact((b8.o.zz I).set4 _).set5 _);have M:Hh (W6 (J w.1+1) sn sn sn sn (ai 0) (ai 0) V5):=(by rw[a6];exact((h1.o.zz I).far Oo).far Oo);have i4:Hh (Bl w V5):=(by rw[a6];exact((bt h2 I).setCell (by show J w.1<=J w.1+1+1;omega) _).setCell (by show J w.1<=J w.1+1+1;omega) _);have h8:Hh (Half V5 G0 (E bs) (E bs) bs fH):=(by rw[a6];exact((h3.o.zz Oo I).set Oo).set Oo);have h9:Hh (OwnI V5 G1 ps):=(by rw[a6];exact((h4.o.zz I).set Oo).set Oo);have i0:Hh (OwnI V5 G2 hs):=(by rw[a6];exact((h5.o.zz I).set Oo).set Oo);have i3:Hh (IRb V5 G3 ws):=(by rw[a6];exact h6.o.A (by rw[eG (by show G3≠J w.1+1+1;omega),eG (by show G3≠J w.1+1+1;omega)];exact I.block _ Oo));clear I x0 x1 b8 h1 e2 h2 h3 h4 h5 h6;go_upto_region 7 with fail;rw[<-a6];clear a6 z0 z1 z2 z3;have o0:=b9.o.c0;have o1:=b9.o.c1;have o2:=b9.o.c2;have o3:=b9.o.c3;have o4:=b9.o.c4;have o5:=b9.o.c5;have r0:=M.o.c0;have r1:=M.o.c1;have r2:=M.o.c2;have r3:=M.o.c3;have r4:=M.o.c4;have r5:=M.o.c5;have p0:=M.o.f0;have p1:=M.o.f1;have p2:=M.o.f2;have p3:=M.o.f3;have p4:=M.o.f4;have p5:=M.o.f5;have HF:=ay ((((((M.o.set0 (sZ G0 0 (E bs) (E bs))).set1 (sZ G1 0 (E ps) (E ps))).set2 (sZ G2 0 (E hs) (E hs))).set3 (sZ G3 0 (E ws) (E ws))).set4 (ai x)).set5 (ai y));go_wp2;have t0:=HF.o.c0;have t1:=HF.o.c1;have t2:=HF.o.c2;have t3:=HF.o.c3;have t4:=HF.o.c4;have t5:=HF.o.c5;refine aU (by simp[results,results8,go_sem,t0,t1,t2,t3,t4,t5]) rfl ⟨G0,G1,G2,G3,rfl,⟨?_,?_,?_,?_⟩,?_,?_,?_,?_,?_⟩;exact((((((h8.o.set Oo).set Oo).set Oo).set Oo).set Oo).set Oo).iss rfl;exact((((((h9.o.set Oo).set Oo).set Oo).set Oo).set Oo).set Oo).is;exact((((((i0.o.set Oo).set Oo).set Oo).set Oo).set Oo).set Oo).is
 .refine IRb.ir (i3.o.A ?_);have V:∀k,G3≠((az (J w.1+1) k):Addr).block:=λk=>by show G3≠J w.1+1;omega
  rw[eG (V 5),eG (V 4),eG (V 3),eG (V 2),eG (V 1),eG (V 0)]
 .have hle:∀k,J w.1<=((az (J w.1+1) k):Addr).block:=λk=>by show J w.1<=J w.1+1;omega
  exact(((((i4.o.setCell (hle 0) _).setCell (hle 1) _).setCell (hle 2) _).setCell (hle 3) _).setCell (hle 4) _).setCell (hle 5) _
 exact((((((h8.o.set Oo).set Oo).set Oo).set Oo).set Oo).set Oo).shss Oo;exact((((((h9.o.set Oo).set Oo).set Oo).set Oo).set Oo).set Oo).shE Oo;exact((((((i0.o.set Oo).set Oo).set Oo).set Oo).set Oo).set Oo).shE Oo;refine IRb.sh (i3.o.A ?_) Oo (by simp only[size_setCell];exact h7);have V:∀k,G3≠((az (J w.1+1) k):Addr).block:=λk=>by show G3≠J w.1+1;omega
 rw[eG (V 5),eG (V 4),eG (V 3),eG (V 2),eG (V 1),eG (V 0)]
end
end Go.Proofs.YtfpjpngjikdaoaaGreat
namespace Go.Proofs.YtfpjpngjikdaoaaGreat
open Go.ChangeShapes Go.WideShapes Go.ChangeAt Go.RowKit Go.Joins Go.Deep
variable {o:LI}{cs:LV}{B fuel i n j t g c:Nat}{v vt vo v0 v1 v2 y:oV}{W W' w wr w3:oX}{α:Type}{l:List α}{tl:List TbV}{rl:List LL}
def Tryz.ownK:ownKnob Tryz.prog.godebug=none:=Kl
def Tryz.laidO:laidOutB Tryz.prog:=Kl
def Tryz.cellsI:Tryz.prog.cellsOf 3=1:=Kl
def Tryz.cellsIS:Tryz.prog.cellsOf 24=1:=Kl
def zU{f}{d:α}(h:j<n):U ((wI n).map f) j d=f j:=by
 rw[gD,bK,getElem?_range h];rfl
variable {H:Type} {enc:TypeId×oV->H} {W:oX}
def y6{x}(h:DataW.trod enc wD W 0 (λ_=>true) true fuel 24 [v]=Q x):
 ∃l,IS W v l/\E l<=9223372036854775807:=by
 rcases open_slice1 tU Tryz.cellsI h with ⟨I,_⟩|⟨a,len,cap,m,n,V,D,Pl,I,_,hl,hm,K,_,M⟩;simp only[mS,iB]at I;subst I;exact⟨[],⟨_,_,rfl,.inl rfl⟩,Ss⟩;simp only[mS,iB]at I;subst I;rw[fE rfl]at K;have O:∀i,i<len->∃z,V i=ai z:=λi hi=>by
  have⟨_,h2⟩:=M i Oo;have⟨z,e0,_,_⟩:=DataW.trod_int tY h2;exact⟨z,by simpa using e0⟩
 have e:∀i,i<len->V i=ai (intOf (V i)):=λi hi=>by
  have⟨z,O⟩:=O i hi;rw[O];rfl
 refine⟨(wI len).map λi=>intOf (V i),⟨Q a,cap,Ss,?_⟩,by simp;unfold maxLen at hm;omega⟩;by_cases h0:len=0;left;simp[h0];right;have⟨b,o,spot⟩:=a;have hs:spot=none:=cell?_spot (M 0 Oo).1;subst hs;refine⟨b,o,rfl,λj hj=>?_⟩;simp only[lM,length_range]at hj;rw[zU hj,<-e j hj];unfold az;rw[<-add_plain];exact(M j Oo).1
def qB5{x}(h:DataW.trod enc wD W 0 (λ_=>true) true fuel 23 [v]=Q x):
 ∃ls,ISS W v ls/\Fits ls:=by
 rcases open_slice1 tV Tryz.cellsIS h with ⟨I,_⟩|⟨a,len,cap,m,n,V,D,Pl,I,_,hl,hm,M,_,O⟩;simp only[mS,iB]at I;subst I;exact⟨[],⟨_,_,rfl,.inl rfl⟩,Ss,λj=>Ss⟩;simp only[mS,iB]at I;subst I;rw[fE rfl]at M;have hz:∀i,i<len->∃l,IS W (V i) l/\E l<=9223372036854775807:=λi hi=>by
  have⟨_,h2⟩:=O i Oo;exact y6 h2
 have⟨L,hL⟩:=choose_lt hz;refine⟨(wI len).map L,⟨Q a,cap,Ss,?_⟩,by simp;unfold maxLen at hm;omega,λj=>?_⟩
 .by_cases h0:len=0;left;simp[h0];right;have⟨b,o,spot⟩:=a;have hs:spot=none:=cell?_spot (O 0 Oo).1;subst hs;refine⟨b,o,rfl,λj K=>?_⟩;simp only[lM,length_range]at K;refine⟨V j,?_,?_⟩;unfold az;rw[<-add_plain];exact(O j Oo).1;rw[zU K];exact(hL j K).1
 by_cases K:j<len;rw[zU K];exact(hL j K).2;rw[gD,gN (by simpa using K)];simp
def Tryz.cellsISS:Tryz.prog.cellsOf 23=1:=Kl
def Tryz.cellsR:Tryz.prog.cellsOf 27=2:=Kl
def Tryz.cellsRS:Tryz.prog.cellsOf 25=1:=Kl
def Tryz.cellsPl:Tryz.prog.cellsOf 29=6:=Kl
def qI7(h:E l=6):∃a b c d e f,l=[a,b,c,d,e,f]:=by
 match l,h with
 |[a,b,c,d,e,f],_=>exact⟨a,b,c,d,e,f,rfl⟩
def qI8(h:E l=2):∃a b,l=[a,b]:=by
 match l,h with
 |[a,b],_=>exact⟨a,b,rfl⟩
def qHg{a:AV}(h:a.size=6):∃v0 v1 v2 v3 v4 v5,a=#[v0,v1,v2,v3,v4,v5]:=by
 have⟨l⟩:=a;match l,h with
 |[v0,v1,v2,v3,v4,v5],_=>exact⟨v0,v1,v2,v3,v4,v5,rfl⟩
section
variable {H:Type} {P:Program} {w:oX} {enc:TypeId×oV->H} {base:Nat} {spare:NB} {held:Bool}
def qEm{t f0 f1 f2 f3 f4 x}(O:P.underlying t=Q (.struct #[f0,f1,f2,f3,f4]))(h:DataW.trod enc P w base spare held fuel t cs=Q x):
 ∃y0 y1 y2 K M n,E cs=P.cellsOf t/\DataW.trod enc P w base spare held n f0.type ((cs.drop f0.offset).take (P.cellsOf f0.type))=Q y0/\
  DataW.trod enc P w base spare held n f1.type ((cs.drop f1.offset).take (P.cellsOf f1.type))=Q y1/\DataW.trod enc P w base spare held n f2.type ((cs.drop f2.offset).take (P.cellsOf f2.type))=Q y2/\
  DataW.trod enc P w base spare held n f3.type ((cs.drop f3.offset).take (P.cellsOf f3.type))=Q K/\DataW.trod enc P w base spare held n f4.type ((cs.drop f4.offset).take (P.cellsOf f4.type))=Q M:=by
 obtain⟨xs,n,_,rfl,hl,hlen,I⟩:=DataW.trod_struct O h;match xs,hlen with
 |[y0,y1,y2,K,M],_=>exact⟨y0,y1,y2,K,M,n,hl,by simpa using I 0 f0 rfl,by simpa using I 1 f1 rfl,by simpa using I 2 f2 rfl,by simpa using I 3 f3 rfl,by simpa using I 4 f4 rfl⟩
end
variable {H:Type} {enc:TypeId×oV->H} {W:oX}
def Xs{x}(h:DataW.trod enc wD W 0 (λ_=>true) true fuel 27 cs=Q x):
 ∃r:Int×Int,cs=[ai r.1,ai r.2]:=by
 have⟨y0,y1,n,_,hlen,I,K⟩:=trod_struct2 Tryz.underlying27 h;rw[Tryz.cellsR]at hlen;obtain⟨c0,c1,rfl⟩:=qI8 hlen;simp only[Tryz.cellsI,drop_zero,drop_succ_cons,take_succ_cons,take_zero]at I K;have⟨s,M,_,hs⟩:=DataW.trod_int tY I;have⟨z,O,_,V⟩:=DataW.trod_int tY K;simp only[mS,iB]at M O;subst M O;exact⟨(s,z),rfl⟩
def qAT{x}(h:DataW.trod enc wD W 0 (λ_=>true) true fuel 25 [v]=Q x):
 ∃O,IR W v O/\E O<=9223372036854775807:=by
 rcases open_slice Tryz.underlying25 h with ⟨I,_⟩|⟨a,len,cap,m,n,D,Pl,I,_,hl,hm,K,_,hV⟩;simp only[mS,iB]at I;subst I;exact⟨[],⟨_,_,rfl,.inl rfl⟩,Ss⟩;simp only[mS,iB]at I;subst I;rw[fE rfl]at K;have hz:∀i,i<len->∃r:Int×Int,(W.cell? (a.add (i*2))=Q (ai r.1)/\W.cell? ((a.add (i*2)).add 1)=Q (ai r.2))/\True:=λi hi=>by
  have⟨a3,V,h2⟩:=hV i Oo;rw[Tryz.cellsR]at V;have⟨_,hlen,hc⟩:=cells?_some V;obtain⟨r,rfl⟩:=Xs h2;have e0:=hc 0 Oo;exact⟨r,⟨by simpa[Addr.add]using e0,hc 1 Oo⟩,trivial⟩
 have⟨L,hL⟩:=choose_lt hz;refine⟨(wI len).map L,⟨Q a,cap,Ss,?_⟩,by simp;unfold maxLen at hm;omega⟩;by_cases h0:len=0;left;simp[h0];right;have⟨b,o,spot⟩:=a;have hs:spot=none:=cell?_spot (hL 0 Oo).1.1;subst hs;refine⟨b,o,rfl,λj M=>?_⟩;simp only[lM,length_range]at M;rw[zU M];have⟨⟨c0,c1⟩,_⟩:=hL j M;rw[add_plain]at c0;rw[add_plain,add_plain]at c1;exact⟨c0,c1⟩
def qAU{x}(h:DataW.trod enc wD W 0 (λ_=>true) true fuel 29 cs=Q x):
 ∃v0 v1 v2 v3 a b bs ps hs ws,cs=[v0,v1,v2,v3,ai a,ai b]/\IPl W v0 v1 v2 v3 bs ps hs ws/\Fits bs/\E ps<=9223372036854775807/\E hs<=9223372036854775807/\E ws<=9223372036854775807:=by
 have⟨y0,y1,y2,y3,y4,n,hlen,I,K,M,O,V⟩:=qEm Tryz.underlying29 h;rw[Tryz.cellsPl]at hlen;obtain⟨c0,c1,c2,c3,c4,c5,rfl⟩:=qI7 hlen;simp only[Tryz.cellsIS,Tryz.cellsISS,Tryz.cellsRS,Tryz.cellsR,drop_zero,drop_succ_cons,take_succ_cons,take_zero]at I K M O V;have⟨bs,i0,f0⟩:=qB5 I;have⟨ps,i1,f1⟩:=y6 K;have⟨hs,i2,f2⟩:=y6 M;have⟨ws,i3,f3⟩:=qAT O;have⟨r,e⟩:=Xs V;simp only[mS,iB]at e;obtain⟨rfl,rfl⟩:=e;exact⟨c0,c1,c2,c3,r.1,r.2,bs,ps,hs,ws,rfl,⟨i0,i1,i2,i3⟩,f0,f1,f2,f3⟩
open Go.Proofs.Tryz Meet
def jb w(h:ITs w vt tl)(hl:E tl<=1048576):
 Cl 64 #[vt] w λe w'=>∃v,e=rE v/\ISS w' v (tl.map TbV.e)/\Bl w w':=by
 have⟨iS,V,b7,b8,b9⟩:=aX Tryz.infoIS;obtain⟨d8,ct,rfl,hc⟩:=h;have HC:Hh (∀W,Bl w W->∀j,j<E tl->∃b oo v0,d8=Q (az b oo)/\TabAt W b (oo+j*3) (U tl j qA)/\eQ W (az b (oo+j*3))=Q v0/\IS w v0 (U tl j qA).e):=ay λW hW j V=>by
  rcases hc with h0|⟨b,oo,rfl,h⟩;omega;have⟨v0,v1,v2,c0,c1,c2,hI⟩:=h j V;exact⟨b,oo,v0,rfl,(h j V).zz hW,xE hW c0,hI.e⟩
 have HE:Hh (∀(W:oX) (v:oV) (us:LV),Bl w W->oW W (J w.1) 24 1 v (E tl) us->(∀i,i<E tl->IS w (U us i undef) (U tl i qA).e)->ISS W v (tl.map TbV.e)):=ay λW v us hW ho hu=>by
  have eg:∀i,i<E tl->U (tl.map TbV.e) i []=(U tl i qA).e:=λi hi=>by rw[gD,bK,gD,gE hi];rfl
  have e7:=ho.1;rcases ho.2 with ⟨rfl,hn⟩|⟨g,cap,cur,rfl,hb',hh,hn,-,-,ht⟩;exact⟨none,0,by rw[lM,hn],Or.inl (by rw[lM];exact hn)⟩;refine⟨_,cap,by rw[lM],Or.inr ⟨g,0,rfl,λj V=>?_⟩⟩;rw[lM]at V;refine⟨U us j undef,?_,by rw[eg j V];exact(hu j V).zz hW⟩;rw[cU,eI hh,<-dY,<-cL (by omega:j<E tl*1),ht,gD,gE Oo];rfl
 obtain⟨n,hn⟩:=Ex (E tl);rw[<-hn]at hl HC HE |-;clear hn hc;obtain⟨Wm,a3,K,a4⟩:=sI w (J w.1) 23 24 _ _ 1 tV V b7 b8 .i64 .i64 n Oo (by rw[b9];omega) Um Oo;have d9:=a3;have c8:=ay (eB.grown a4 eA (λk hk=>by cases hk));have c9:=ay K;clear a3 K a4;go_enter func64,ntmps64;go_upto_block 0 with fail;clear d9;go_wp2;go_loopw [3,11] (λu t wr=>∃(j:Nat) (vv:oV),j<=n/\t=ai j/\vv=u/\Hh (∃us,Bl w wr/\oW wr (J w.1) 24 1 vv j us/\∀i,i<j->IS w (U us i undef) (U tl i qA).e)) (λ_ t _=>n-(intOf t).toNat);exact⟨0,_,eC,rfl,rfl,ay ⟨[],c8,c9,λi hi=>Oo⟩⟩;clear c8 c9;obtain⟨j,vv,e8,rfl,rfl,HT⟩:=hrel;obtain⟨us,hB,hO,hU⟩:=HT.o;change Hh _ at hB hO hU;clear HT;by_cases e3:j<n
 .have i1:(j:Int)<n:=Oo;obtain⟨b,oo,e4,ea,⟨v0,v1,v2,c0,c1,c2,hI⟩,a5,d1⟩:=HC _ hB j e3;subst ea;obtain rfl:e4=v0:=by rw[c0]at a5;exact(eU a5).symm
  obtain⟨a0,k0,e0,-⟩:=hI.e;obtain⟨a1,k1,e1,-⟩:=hI.x;obtain⟨a2,k2,e2,-⟩:=hI.k;subst e0 e1 e2;have d2:=ay d1;clear a5 hI d1;generalize E (U tl j qA).x=nr at *;generalize E (U tl j qA).k=n2 at *;obtain⟨W3,M⟩:=Ex (S wr (eZ #[Z a0 (E (U tl j qA).e) k0,Z a1 nr k1,Z a2 n2 k2] 58));have a6:Bl wr W3:=by rw[M];exact(bJ _ _).alloc (nR _) _
  have d0:eQ W3 (az (J wr.1) 0)=Q (Z a0 (E (U tl j qA).e) k0):=by rw[M,eH rfl];rfl
  have a7:=ay (bt hB a6);have a8:=ay (qB hO a6);have e5:=a7.o.size;clear a6;have d3:E us=j:=O1 hO.1
  have a9:=ay d3;clear d3;obtain⟨nv,b1⟩:=Ex (E (U tl j qA).e);rw[<-b1]at c0 d0 M;have d4:Hh (IS w (Z a0 nv k0) (U tl j qA).e):=ay (by rw[b1];exact d2);clear b1 d2;go_upto_region 5 with fail;rw[<-M];clear M c0 c1 c2;go_wp2_with (at_builtin;refine apL rfl rfl tV Tryz.infoIS (a8.o.alloc _) rfl rfl (qH _ _ _) Sy ?_;intro g6 e6 w6 O I d5 d6);have HN:Hh (∃d7,Bl w w6/\oW w6 (J w.1) 24 1 (sZ g6 0 (j+1) e6) (j+1) d7/\∀i,i<j+1->IS w (U d7 i undef) (U tl i qA).e):=ay ⟨us++[Z _ _ _],(a7.o.alloc e5 _).grown I Sy (λq hq=>(a8.o.lt q hq).1),O,λi hi=>by
   by_cases e:i<j;rw[gD,aL (by rw[a9.o];exact e),<-gD];exact hU i e;obtain rfl:i=j:=Oo;rw[gD,bQ (by rw[a9.o];exact eA),a9.o,iV];exact d4⟩
  clear O I d5 d6 a7 a8;go_roundw;exact⟨j+1,_,Oo,Gg,rfl,HN⟩;exact Im
 obtain rfl:j=n:=Oo;have i1:¬((j:Int)<j):=Oo;have HF:=ay (HE _ _ _ hB hO hU);clear HC HE hO hU;go_wp2;go_ret;exact⟨vv,rfl,HF,hB⟩
def yI(tl:List TbV)(o:LI):LL:=o.map λx=>plc (λi=>oD (x∈U (tl.map TbV.e) i [])) (E (tl.map TbV.e))
def YK o(h:ITs w vt tl)(ho:IS w vo o)(hl:E tl<=1000)(e0:E o<=1000)(b8:∀t∈tl,E t.e<=1000):
 Cl 123 #[vo,vt] w λe w'=>∃v us,e=rE v/\RQ w' (J w.1) v us (yI tl o)/\(∃g,v.ownBlock=Q g)/\Bl w w':=by
 have⟨iS,hj,b9,c7,c8⟩:=aX Tryz.infoIS;have KE:=ay λW hW=>jb W (h.zz hW) Oo;have KW:Hh (∀W v x,ISS W v (tl.map TbV.e)->Cl 108 #[ai x,v] W λe w'=>∃v',e=rE v'/\oW w' (J W.1) 3 1 v' (E (plc (λi=>oD (x∈U (tl.map TbV.e) i [])) (E (tl.map TbV.e)))) ((plc (λi=>oD (x∈U (tl.map TbV.e) i [])) (E (tl.map TbV.e))).map ai)/\Bl W w'):=ay λW v x hv=>ye W v x hv ⟨by rw[lM];omega,λj=>by
  rw[gD,bK];cases e:tl[j]? with
  |none=>exact eC
  |some t=>have:=b8 t (mem_of_getElem? e);show E t.e<=_;omega⟩
 obtain⟨f7,ct,rfl,-⟩:=h;obtain⟨ao,co,rfl,c9⟩:=ho;have HC:Hh (∀W,Bl w W->∀j,j<E o->∃b oo,ao=Q (az b oo)/\eQ W (az b (oo+j))=Q (ai (U o j 0))):=ay λW hW j hj=>by
  rcases c9 with h0|⟨b,oo,rfl,h⟩;omega;exact⟨b,oo,rfl,xE hW (h j hj)⟩
 have HP:Hh (∀j,j<E o->yI tl (o.take (j+1))=yI tl (o.take j)++[plc (λi=>oD (U o j 0∈U (tl.map TbV.e) i [])) (E (tl.map TbV.e))]):=ay λj hj=>by
  unfold yI;rw[qy hj,mA];rfl
 have a4:Hh (∀j,j<=E o->E (yI tl (o.take j))=j):=ay λj hj=>by unfold yI;rw[lM,bZ];omega
 have a8:Hh (yI tl (o.take (E o))=yI tl o):=ay (by rw[tL]);have e1:Hh (yI tl (o.take 0)=[]):=ay rfl;have⟨n,hn⟩:=Ex (E o);rw[<-hn]at e0 HC HP a4 a8 |-;clear hn c9 b8;have⟨nT,d0⟩:=Ex (E tl);rw[<-d0]at hl KE |-;clear d0;have⟨Wm,a6,K,a7⟩:=sI w (J w.1) 23 24 _ _ 1 tV hj b9 c7 .i64 .i64 n Oo (by rw[c8];omega) Um Oo;have e2:=a6;have d2:=ay (eB.grown a7 eA (λk hk=>by cases hk));have d3:=ay K;clear a6 K a7;go_enter func123,ntmps123;go_upto_block 0 with fail;clear e2;go_wp2;go_loopw [5,13] (λu t wr=>∃(j:Nat) (vv:oV),j<=n/\t=ai j/\vv=u/\Hh (∃us,Bl w wr/\RQ wr (J w.1) vv us (yI tl (o.take j))/\∃g,vv.ownBlock=Q g)) (λ_ t _=>n-(intOf t).toNat);exact⟨0,_,eC,rfl,rfl,ay ⟨[],d2,(by rw[e1.o];exact⟨d3,rfl,λi hi=>by simp at hi,λi j _ hj=>by simp at hj⟩),_,rfl⟩⟩;clear d2 d3;obtain⟨j,vv,e4,rfl,rfl,HT⟩:=hrel;obtain⟨us,hB,hQ,hg⟩:=HT.o;change Hh _ at hg hB hQ;clear HT;by_cases d4:j<n
 .have i1:=aV d4;obtain⟨b,oo,ea,c1⟩:=HC _ hB j d4;subst ea;have e5:=ay (HP j d4);have d5:=a4 j e4;have e6:=ay (KE _ hB);have e7:Hh (∀W v,ISS W v (tl.map TbV.e)->_):=ay λW v hv=>KW W v (U o j 0) hv;generalize plc (λi=>oD (U o j 0∈U (tl.map TbV.e) i [])) (E (tl.map TbV.e))=pj at *;generalize U o j 0=ov at *;clear HC HP a4 KE KW;go_wp2_with (first
   |(go_at_call 64;apply e6.o.mono;rintro e w2 ⟨v2,rfl,d6,M⟩)
   |(go_at_call 108;apply (e7.o _ _ d6).mono;rintro e w3 ⟨v3,rfl,a5,a9⟩;have b1:=hQ.o.zz (bt M a9);have b7:=bt hB (bt M a9);have e8:=b7.size;have O:=(by have:=b1.z;rwa[d5]at this);obtain⟨a3,k3,e3⟩:=qt a5;subst e3)
   |(at_builtin;refine apL rfl rfl tV Tryz.infoIS (O.alloc _) rfl rfl (qH _ _ _) Sy ?_;intro g6 d7 w6 V I d8 d9)
   |fail)
  have HN:Hh (∃e9,Bl w w6/\RQ w6 (J w.1) (sZ g6 0 (j+1) d7) e9 (yI tl (o.take (j+1)))/\∃g,(sZ g6 0 (j+1) d7).ownBlock=Q g):=ay ⟨us++[Z a3 (E pj) k3],(b7.alloc e8 _).grown I Sy (λq hq=>(O.lt q hq).1),(by
   rw[e5.o];exact b1.P (qE a5 (bM hB.o.size M.size)) (λi hi g h1 h2=>by
    have a1:=((hQ.o.l i hi).lt g h1).2;have a2:=(a5.lt g h2).1;have:=M.size;omega) (by rw[d5];exact V) I),_,rfl⟩
  clear V I d8 d9 b1 b7 O a5 d6 M a9;go_roundw;exact⟨j+1,_,Oo,Gg,rfl,HN⟩;exact Im
 obtain rfl:j=n:=Oo;have i1:=aY j;rw[a8.o]at hQ;clear HC KE KW HP a4 a8;go_wp2;go_ret;exact⟨vv,rfl,⟨us,hQ⟩,hg,hB⟩
structure TvF(t:TbV):Prop where
 e:E t.e<=9223372036854775807
 x:Fits t.x
 k:E t.k<=9223372036854775807
def szB(t:TbV):Nat:=E t.e+tot t.x (E t.x)+E t.k
def xf(tl:List TbV):Nat:=(tl.map szB).sum
def Ue{left:Nat}(h:ITs w v tl)(hl:E tl<=9223372036854775807)(hs:∀t∈tl,TvF t)(hle:left<=1048576):
 Cl 4 #[v,ai (left:Int)] w λe w'=>∃x,e=rE (ai x)/\(0<=x->E tl+xf tl<=left/\x<=1048576)/\Bl w w':=by
 obtain⟨a7,ct,rfl,hc⟩:=h;have HC:Hh (∀W,Bl w W->∀j,j<E tl->∃b oo,a7=Q (az b oo)/\TabAt W b (oo+j*3) (U tl j qA)):=ay λW hW j O=>by
  rcases hc with h0|⟨b,oo,rfl,h⟩;omega;exact⟨b,oo,rfl,(h j O).zz hW⟩
 have HR:Hh (∀j,j<E tl->TvF (U tl j qA)):=ay λj O=>hs _ (by rw[gD,gE O];exact gM _);have a3:Hh (∀j,j<E tl->xf (tl.take (j+1))=xf (tl.take j)+szB (U tl j qA)):=ay λj O=>by
  unfold xf;rw[tA,gE O,mA,sum_append,gD,gE O];simp
 have a4:Hh (xf (tl.take (E tl))=xf tl):=ay (by rw[tL]);have⟨n,hn⟩:=Ex (E tl);rw[<-hn]at hl HC HR a3 a4 |-;clear hn hc hs;by_cases b1:left<n
 .have q1:(left:Int)-(n:Int)<0:=Oo;go_enter func4,ntmps4;go_wp2;go_ret;exact⟨_,rfl,λh=>absurd h Oo,eB⟩
 have q1:¬((left:Int)-(n:Int)<0):=Oo;go_enter func4,ntmps4;go_wp2;go_loopw [1,5] (λu t wr=>∃(j L:Nat),j<=n/\t=ai j/\u=ai (L:Int)/\L+n<=left/\Hh (L+n+xf (tl.take j)=left/\Bl w wr)) (λ_ t _=>n-(intOf t).toNat);exact⟨0,left-n,eC,rfl,congrArg ai Oo,Oo,ay ⟨by show left-n+n+0=left;omega,eB⟩⟩;obtain⟨j,L,b7,rfl,rfl,b8,K⟩:=hrel;by_cases M:j<n
 .have i1:=aV M;have⟨b,oo,ea,v0,v1,v2,c0,c1,c2,hI⟩:=HC _ K.2 j M;subst ea;have HF:=ay (HR j M);have a8:=ay (a3 j M);have KZ:=ay (Jz L hI HF.o.e HF.o.x HF.o.k Oo Oo);have a5:Hh ((L<szB (U tl j qA)->szT (U tl j qA).e (U tl j qA).x (U tl j qA).k (L:Int)=-1)/\(¬L<szB (U tl j qA)->szT (U tl j qA).e (U tl j qA).x (U tl j qA).k (L:Int)=((L-szB (U tl j qA):Nat):Int))):=ay ⟨λh=>by
   unfold szB at h;unfold szT;rw[fE Oo],λh=>by
   unfold szB at h |-;unfold szT;rw[fF Oo];omega⟩
  obtain⟨a0,k0,e0,-⟩:=hI.e;obtain⟨a1,k1,e1,-⟩:=hI.x;obtain⟨a2,k2,e2,-⟩:=hI.k;subst e0 e1 e2;clear hI HC HF;generalize szT (U tl j qA).e (U tl j qA).x (U tl j qA).k (L:Int)=z,szB (U tl j qA)=sb,E (U tl j qA).x=nr,E (U tl j qA).e=n0,E (U tl j qA).k=n2 at *;by_cases hb:L<sb
  .have hz:=a5.1 hb;subst hz;go_wp2_with (go_at_call 21;apply KZ.o.mono;rintro e w2 ⟨rfl,I⟩);go_ret;exact⟨_,rfl,λh=>absurd h Dd,bt K.2 I⟩
  have hz:=a5.2 hb;obtain⟨V,a6⟩:=Ex (L-sb);rw[<-a6]at hz;subst hz;have q2:¬((V:Int)<0):=Oo;go_wp2_with (go_at_call 21;apply KZ.o.mono;rintro e w2 ⟨rfl,I⟩);have HN:Hh (V+n+xf (tl.take (j+1))=left/\Bl w w2):=ay ⟨by have h1:=a8.o;have h2:=K.1;omega,bt K.2 I⟩;clear I KZ K;go_roundw;exact⟨j+1,V,Oo,Gg,by rw[a6],Oo,HN⟩;exact Im
 obtain rfl:j=n:=Oo;have i1:=aY j;go_wp2;go_ret;exact⟨_,rfl,λ_=>⟨(by have h1:=K.1;rw[a4.o]at h1;omega),Oo⟩,K.2⟩
variable {H:Type} {enc:TypeId×oV->H} {W:oX}
def Tryz.cellsTabL:Tryz.prog.cellsOf 53=3:=Kl
def Tryz.cellsISS6:Tryz.prog.cellsOf 23=1:=Kl
def qJf(h:E l=3):∃a b c,l=[a,b,c]:=by
 match l,h with
 |[a,b,c],_=>exact⟨a,b,c,rfl⟩
open Go.Maps
variable {H:Type} {enc:TypeId×oV->H} {W:oX}
structure JMx(x:JX)(nxt:LI->LI)(no:Nat):Prop where
 mem:∀t,t<x.nT->∀q,x.D t q->∀y,y∈x.N t q↔x.D t (q++[y])
 asc:∀t,t<x.nT->∀q,x.D t q->(x.N t q).Pairwise (·< ·)
 C:∀t,t<x.nT->∀q,x.D t q->E (x.N t q)<=1000000
 lT:x.nT<=1000
 lo:no<=1000
 hl:E x.hav=no
 hav:∀k,k<no->U x.hav k []=plc (λt=>x.H t k) x.nT
 some:∀k,k<no->∃t,t<x.nT/\x.H t k
 more:∀p,E p<no->(∀t,t<x.nT->x.D t (prt (x.H t) p))->∀t,t<x.nT->x.H t (E p)->0<E (x.N t (prt (x.H t) p))
 nx:∀p,E p<no->(∀t,t<x.nT->x.D t (prt (x.H t) p))->∀g,g<x.nT->x.H g (E p)->nxt p=(x.N g (prt (x.H g) p)).filter λy=>(plc (λt=>x.H t (E p)) x.nT).all λt=>oD (y∈x.N t.toNat (prt (x.H t.toNat) p))
def JX.Hd(x:JX)(p:LI):Prop:=∀t,t<x.nT->x.D t (prt (x.H t) p)
def JX.tk(x:JX)(p:LI)(j:Nat):Nat:=(U (plc (λt=>x.H t (E p)) x.nT) j 0).toNat
def JX.nh(x:JX)(p:LI):Nat:=E (plc (λt=>x.H t (E p)) x.nT)
def JX.nd(x:JX)(p:LI)(j:Nat):Nat:=x.f (x.tk p j) (prt (x.H (x.tk p j)) p)
def JX.vl(x:JX)(p:LI)(j:Nat):LI:=x.N (x.tk p j) (prt (x.H (x.tk p j)) p)
def JX.tk_ok(x:JX)p(K:j<x.nh p):x.tk p j<x.nT/\x.H (x.tk p j) (E p)/\U (plc (λt=>x.H t (E p)) x.nT) j 0=(x.tk p j:Int):=by
 have I:=yT K;unfold plc at I;have⟨i,hi,e⟩:=cC.1 I;have⟨M,O⟩:=cK.1 hi;have V:x.tk p j=i:=by
  unfold JX.tk;unfold plc;rw[<-e];rfl
 rw[V];exact⟨cJ.1 M,O,by unfold plc;exact e.symm⟩
def JX.tk_all(x:JX)p(I:t<x.nT)(K:x.H t (E p)):∃j,j<x.nh p/\x.tk p j=t:=by
 have M:(t:Int)∈plc (λt=>x.H t (E p)) x.nT:=by
  unfold plc;exact cC.2 ⟨t,cK.2 ⟨cJ.2 I,K⟩,rfl⟩
 have⟨j,O,e⟩:=yw M;exact⟨j,O,by unfold JX.tk;rw[e];omega⟩
def JX.all(x:JX)(p:LI)(y:Int):Bool:=(wI (x.nh p)).all λj=>oD (y∈x.vl p j)
def JX.all_eq(x:JX)p y:((plc (λt=>x.H t (E p)) x.nT).all λt=>oD (y∈x.N t.toNat (prt (x.H t.toNat) p)))=x.all p y:=by
 rw[pL,aT];unfold JX.all;rw[aT];constructor;intro h j I;exact h _ (yT (cJ.1 I));intro h t K;have⟨j,I,e⟩:=yw K;have:=h j (cJ.2 I);unfold JX.vl JX.tk at this;rwa[e]at this
structure LG(x:JX)(B:Nat)(wr:oX)(bB bH cu cc:Nat)(vp vb vt:oV)(p:LI)(q:NN):Prop where
 dat:Dat x wr
 brn:Brn x x.n0 wr vp vb p
 bx:BrX wr bB vp vb
 lB:x.n0<=bB
 bh:wr.1[bH]?=Q (eZ #[vt] 24 (0,0))
 lH:x.n0<=bH
 nr:¬RBk x wr bH
 hB:x.n0<=B
 cur:oW wr B 270 2 (sZ cu 0 (x.nh p) cc) (x.nh p) (uF (x.nd p) q (x.nh p))
section
variable {x:JX} {B:Nat} {X Y:oX} {bB bH cu cc:Nat} {vp vb vt:oV} {p:LI} {q:NN}
def LG.zz(h:LG x B X bB bH cu cc vp vb vt p q)(I:x.Ok)(hb:Bl X Y):LG x B Y bB bH cu cc vp vb vt p q:=by
 have M:=h.bx.lt;have K:KT x.n0 X Y:=KT.zu hb (O1 h.lB);exact⟨h.dat.kt K I,h.brn.zz hb,h.bx.zz hb,h.lB,(hb.block _ (qZ h.bh)).trans h.bh,h.lH,λO=>h.nr ((RBk.eq (K.O.block _ I.r) _).1 O),h.hB,qB h.cur hb⟩
def LG.kp{sS}(h:LG x B X bB bH cu cc vp vb vt p q)(K:x.Ok)(I:KpS x sS X Y):LG x B Y bB bH cu cc vp vb vt p q:=by
 have hs:=I.sb K h.dat.ty;refine⟨h.dat.kp I K,h.brn.sb hs eA,(hs.same _ _ _ _ h.lB h.bx Dd Dd (.inl Dd)).trans h.bx,h.lB,(hs.same _ _ _ _ h.lH h.bh Dd Dd (.inr h.nr)).trans h.bh,h.lH,I.nr (qZ h.bh) h.nr,h.hB,qD h.cur λg O=>?_⟩;have⟨cur,M⟩:=qK h.cur O;exact(I.same g _ M (.inl rfl) (KpS.not K h.dat.ty (bM h.hB (h.cur.lt g O).1) M (.inl Dd))).trans M.symm
def qF4{nd n}{v:Nat}(hi:i<n):(uF nd q n).set (i*2+1) (ai v)=uF nd (λj=>if j=i then v else q j) n:=by
 induction n with
 |zero=>omega
 |succ n ih=>
  rw[jJ,jJ];by_cases e:i<n;rw[set_append_left _ _ (by rw[yn];omega),ih e,fF Oo];obtain rfl:i=n:=Oo;rw[set_append_right _ _ (by rw[yn];omega),yn,fE rfl,show i*2+1-i*2=1 by omega];congr 1;unfold uF;simp only[flatMap];congr 1;refine cV λj I=>?_;rw[fF (O1 (cJ.1 I))]
def LG.seek(h:LG x B X bB bH cu cc vp vb vt p q)(O:x.Ok)(hi:i<x.nh p)(v:Nat):LG x B (sW X (az cu (i*2+1)) (ai v)) bB bH cu cc vp vb vt p (λj=>if j=i then v else q j)/\KT B X (sW X (az cu (i*2+1)) (ai v)):=by
 have⟨cur,V⟩:=qK h.cur (g:=cu) rfl;have I:KT B X (sC X cu (i*2+1) (ai v)):=KT.set _ ((h.cur.lt cu rfl).1) V (.inl rfl);have M:=I.mono h.hB;have hs:=M.sb;refine⟨⟨h.dat.kt M O,h.brn.sb hs eA,(hs.same _ _ _ _ h.lB h.bx Dd Dd (.inl Dd)).trans h.bx,h.lB,(hs.same _ _ _ _ h.lH h.bh Dd Dd (.inr h.nr)).trans h.bh,h.lH,λh1=>h.nr ((RBk.eq (M.O.block _ O.r) _).1 h1),h.hB,?_⟩,I⟩;have:=(h.cur.stored (i*2+1) (ai v)).1;rwa[qF4 hi]at this
def LG.cq(h:LG x B X bB bH cu cc vp vb vt p q){nxt no}(hm:JMx x nxt no)(hp:E p<no)(hd:x.Hd p)(hi:i<x.nh p):∃fb cap V cb,Cq X cu (i*2) (x.nd p i) fb cap (Z (Q (az V 0)) (E (x.vl p i)) cb) (x.vl p i) (q i)/\E (x.vl p i)<=cap/\
 ∀j,j<E (x.vl p i)->eQ X (az V j)=Q (.pointer (Q (az (x.f (x.tk p i) (prt (x.H (x.tk p i)) p++[U (x.vl p i) j 0])) 0))):=by
 obtain⟨h1,h2,-⟩:=x.tk_ok p hi;have hT:=h.dat.tr _ h1;have hD:=hd _ h1;have h0:=hm.more p hp hd _ h1 h2;have K:=hT.o0 _ hD;have M:=hT.o1 _ hD;obtain⟨ga,ca,ea,-⟩:=xg K h0;obtain⟨V,cb,eb,-⟩:=xg M h0;have a3:E (x.vl p i)<=ca:=by
  rcases K.2 with ⟨-,h2⟩|⟨g,cap,cur,e,-,-,hn,-⟩;exact absurd h2 Oo;rw[ea]at e;simp only[vI]at e;have:E (x.vl p i)<=cap:=hn;omega
 have⟨g1,g2⟩:=qAe (x.nd p) q i hi;refine⟨ga,ca,V,cb,⟨?_,?_,?_,?_,?_,λj O=>?_⟩,a3,λj O=>?_⟩;rw[h.cur.cellAt (i*2) Oo];exact g1;rw[h.cur.cellAt (i*2+1) Oo];exact g2;exact h.cur.frozenAt _;have:=hT.c0 hD;rwa[ea]at this;have:=hT.c1 hD;rwa[eb]at this;have I:j<E (x.N (x.tk p i) (prt (x.H (x.tk p i)) p)):=O;obtain⟨g,c,e,h3⟩:=xg K O;rw[ea]at e;simp only[vI,oI,aI]at e;rw[e.1.1,h3,bK,gE I];show _=Q (ai (U (x.N (x.tk p i) (prt (x.H (x.tk p i)) p)) j 0));rw[gD,gE I];rfl;have I:j<E (x.N (x.tk p i) (prt (x.H (x.tk p i)) p)):=O;obtain⟨g,c,e,h3⟩:=xg M O;rw[eb]at e;simp only[vI,oI,aI]at e;rw[e.1.1,h3,bK,gE I];show _=Q (Value.pointer (Q (az (x.f (x.tk p i) (prt (x.H (x.tk p i)) p++[U (x.N (x.tk p i) (prt (x.H (x.tk p i)) p)) j 0])) 0)));rw[gD,gE I];rfl
end
def TrO(B:Nat)(W:oX)(rows:LL)(c:OA):Prop:=rows=[]/\c=none\/rows≠[]/\∃D N f g0 g1,c=Q (az (f []) 0)/\TM rows D N/\TR W B D N N f g0 g1/\∀p,D p->E (N p)<=E rows
def TR.A{D N0 N1 f g0 g1}(h:TR W B D N0 N1 f g0 g1)(M:∀k,B<=k->k<J W.1->W'.1[k]?=W.1[k]?):TR W' B D N0 N1 f g0 g1:=
 ⟨λp I=>(M _ (h.low p I) (h.lt I)).trans (h.i p I),h.low,λp I=>qD (h.o0 p I) λg K=>M g ((h.o0 p I).lt g K).1 ((h.o0 p I).lt g K).2,λp I=>qD (h.o1 p I) λg K=>M g ((h.o1 p I).lt g K).1 ((h.o1 p I).lt g K).2,h.inj,h.a0,h.a1⟩
def ElT(B bx:Nat)(v:oV)(W:oX)(rows:LL)(c:OA):Prop:=∀W',(∀k,k<J W.1->v.ownBlock≠Q k->k≠bx->W'.1[k]?=W.1[k]?)->TrO B W' rows c
structure RtS(W:oX)(B bx:Nat)(v:oV)(rl:List LL)(cs:List (OA)):Prop where
 z:oW W B 183 1 v (E rl) (cs.map Value.pointer)
 C:E cs=E rl
 el:∀t,t<E rl->ElT B bx v W (U rl t []) (U cs t none)
def RtS.zz{bx cs}(h:RtS W B bx v rl cs)(hb:Bl W W'):RtS W' B bx v rl cs:=
 ⟨qB h.z hb,h.C,λt K X M=>h.el t K X λk I O V=>by rw[M k (bN I hb.size) O V];exact hb.block k I⟩
def RtS.push{bx cs rows V o}(h:RtS wr B bx v rl cs)(hB:B<=J wr.1)(b1:bx<J wr.1)(hb:Bl wr W)(he:TrO (J wr.1) W rows V)(hg:(S W o).grownBy w3 v.ownBlock)
 (a3:oW w3 B 183 1 (sZ g 0 (E rl+1) c) (E rl+1) (cs.map Value.pointer++[.pointer V])) (M:v.ownBlock=Q g\/g=J (S W o).1) (a5:g≠bx):
 RtS (sW w3 (az bx 1) y) B bx (sZ g 0 (E rl+1) c) (rl++[rows]) (cs++[V]):=by
 have hs:=hb.size;have a6:=hg.size;rw[aM]at a6 M;have hsz:J (sC w3 bx 1 y).1=J w3.1:=by simp[World.setCell]
 refine⟨?_,by simp[h.C],λt ht W' a7=>?_⟩
 .rw[lA,lS,mA];refine qD a3 λk O=>eG λe=>?_;have:k=g:=by simpa[wN]using O.symm
  exact a5 (this.symm.trans e)
 have key:∀k,k<J W.1->v.ownBlock≠Q k->g≠k->k≠bx->W'.1[k]?=W.1[k]?:=λk O I K h3=>by
  rw[a7 k (by rw[hsz];omega) (λe=>K (by simpa[wN]using e)) h3,eG h3,hg.block k (by rw[aM];omega) (λe=>I e.symm)];exact eL O
 have a4:=λk O=>(h.z.lt k O).2;rw[lA,lS]at ht;by_cases e:t<E rl
 .have e1:U (rl++[rows]) t []=U rl t []:=by rw[gD,aL e,<-gD]
  have e2:U (cs++[V]) t none=U cs t none:=by rw[gD,aL (by rw[h.C];exact e),<-gD]
  rw[e1,e2];refine h.el t e _ λk O I h3=>?_;rw[key k Oo I (λe=>?_) h3];exact hb.block k O;subst e;rcases M with K|K;exact I K;omega
 have a8:t=E rl:=Oo;subst a8;have e1:U (rl++[rows]) (E rl) []=rows:=by rw[gD,bQ eA,iV];rfl
 have e2:U (cs++[V]) (E rl) none=V:=by rw[gD,bQ (by rw[h.C];exact eA),h.C,iV];rfl
 rw[e1,e2];rcases he with ⟨I,K⟩|⟨I,D,N,f,g0,g1,K,h3,h4,h5⟩;exact .inl ⟨I,K⟩;refine .inr ⟨I,D,N,f,g0,g1,K,h3,(h4.A λk b7 a9=>key k a9 (λe=>?_) (λe=>?_) Oo).zx hB,h5⟩;have:=a4 k e;omega;subst e;rcases M with h6|h6;have:=a4 _ h6;omega;omega
def plO(vs:LI)(o:LI):LI:=(o.filter λv=>oD (v∈vs)).map λv=>(bsQ vs v:Int)
def qFv vs o v:plO vs (o++[v])=plO vs o++(if v∈vs then [(bsQ vs v:Int)] else []):=by
 unfold plO;rw[cZ,mA];congr 1;by_cases h:v∈vs;rw[fE h];simp[h];rw[fF h];simp[h]
def qHj{vs}(K:vs.Pairwise (·< ·))v:bsF vs v=oD (v∈vs):=by
 unfold bsF;by_cases h:v∈vs;have⟨I,M⟩:=XJ (jP K) h;rw[fD h,fD I,fD M];rfl;rw[fC h];by_cases I:bsQ vs v<E vs;rw[fD I,fC (qDC h I)];rfl;rw[fC I];rfl
def qI9{vs}(I:vs.Pairwise (·< ·)):∀q∈plO vs o,0<=q/\q<E vs:=λq hq=>by
 obtain⟨v,hv,rfl⟩:=cC.1 hq;have:=(XJ (jP I) (aN (cK.1 hv).2)).1;omega
def qFw{vs}(I:vs.Pairwise (·< ·))rows:xC rows (plO vs o)=rows.map (qQ vs (shr o vs)):=by
 unfold xC;refine cV λr _=>?_;unfold atP plO qQ shr;rw[map_map];refine cV λv hv=>?_;have⟨K,M⟩:=XJ (jP I) (aN (cK.1 hv).2);show U r ((bsQ vs v:Int)).toNat 0=vlF vs r v;rw[show((bsQ vs v:Int)).toNat=bsQ vs v by omega];have:=jL _ r _ I K;rw[M]at this;exact this.symm
end Go.Proofs.YtfpjpngjikdaoaaGreat
namespace Go.Proofs.YtfpjpngjikdaoaaGreat
open Go.Proofs.Tryz Go.RowKit Meet
variable {y:Int}{p:LI}{B i l t k:Nat}{hvv vb vp v0 v1:oV}{X Y Y0 w W:oX}{x:JX}{iJ:WP}
def slA:oV->OA| Z a _ _=>a|_=>none
def slN:oV->Nat| Z _ n _=>n|_=>0
def slC:oV->Nat| Z _ _ c=>c|_=>0
def qDh(b:oV×oV):AV:=#[aQ #[b.1,b.2]]
def qJA(x:JX)(nxt:LI->LI)(p:LI)(pre:LI)(y:Int)(b:oV×oV)(X Y:oX):Prop:=Brn x (J X.1) Y b.1 b.2 (p++[y])/\pre++[y] <+:nxt p/\(∃g c,b.1=sZ g 0 (E p+1) c)/\∃g c,b.2=sZ g 0 x.nT c
def KpB(x:JX)(l0 l2:Nat):oX->WP:=KpS x λk=>k=l0\/k=l2
def qAj(x:JX)p(I:t<x.nT):(x.O p)[t]?=Q (.pointer (Q (az (x.f t (prt (x.H t) p)) 0))):=by
 unfold JX.O;rw[bK,getElem?_range I];rfl
structure SkE(x:JX)(B:Nat)(X Y:oX)(bB bH cu cc:Nat)(vp vb vt:oV)(p:LI)(q:NN)(i:Nat)(y:Int)(v:Nat):Prop where
 lg:LG x B Y bB bH cu cc vp vb vt p (λj=>if j=i then v else q j)
 kt:KT B X Y
 le:v<=E (x.vl p i)
 lo:∀m,m<v->U (x.vl p i) m 0<y
 hi:∀m,v<=m->m<E (x.vl p i)->y<=U (x.vl p i) m 0
section
variable {x:JX} {B:Nat} {X:oX} {bB bH cu cc:Nat} {vp vb vt:oV} {p:LI} {q:NN} {nxt:LI->LI} {no:Nat}
def LG.seek_calls(h:LG x B X bB bH cu cc vp vb vt p q)(hx:x.Ok)(O:JMx x nxt no)(hp:E p<no)(hd:x.Hd p)(hi:i<x.nh p)y(hq:q i<E (x.vl p i))(V:∀m,m<q i->U (x.vl p i) m 0<y):
 Cl 193 #[pZ cu (i*2),ai y] X λe w'=>(∃v,e=rE v)/\∃v,SkE x B X w' bB bH cu cc vp vb vt p q i y v:=by
 obtain⟨M,h2,-⟩:=x.tk_ok p hi;obtain⟨fb,cap,gb,cb,hc,K,-⟩:=h.cq O hp hd hi;have I:Asc (x.vl p i):=jP (O.asc _ M _ (hd _ M));have hlen:E (x.vl p i)<=1000000:=O.C _ M _ (hd _ M);apply (Xz X _ _ _ y hc Oo K hq I).mono;rintro e w' ⟨hv,d,rfl⟩;refine⟨hv,q i+bsQ ((x.vl p i).drop (q i)) y,?_⟩;have⟨s1,s2,s3⟩:=ZF (Vv I (q i)) y;have⟨a3,a4⟩:=(h.zz hx (rB (bJ _ X) d)).seek hx hi (q i+bsQ ((x.vl p i).drop (q i)) y);have a6:=h.bx.lt
 rw[dP]at s1;refine⟨a3,(KT.zu (rB (bJ _ X) d) (by have:=h.cur.lt cu rfl;omega)).trans a4,Oo,λm a7=>?_,λm h3 h4=>?_⟩
 .by_cases e:m<q i;exact V m e;have:=s2 (m-q i) Oo;rwa[gD,getElem?_drop,show q i+(m-q i)=m by omega,<-gD]at this
 have:=s3 (m-q i) Oo (by rw[dP];omega);rwa[gD,getElem?_drop,show q i+(m-q i)=m by omega,<-gD]at this
def LG.ended_calls(h:LG x B X bB bH cu cc vp vb vt p q)(I:JMx x nxt no)(K:E p<no)(hd:x.Hd p)(hi:i<x.nh p):
 aF 194 #[pZ cu (i*2)] X (oB (oD (q i=E (x.vl p i)))) λw'=>∃d,w'=X.drewN d:=by
 obtain⟨fb,cap,O,V,M,-,-⟩:=h.cq I K hd hi;exact XG X M
def LG.value_calls(h:LG x B X bB bH cu cc vp vb vt p q)(I:JMx x nxt no)(K:E p<no)(hd:x.Hd p)(hi:i<x.nh p)(hq:q i<E (x.vl p i)):
 aF 195 #[pZ cu (i*2)] X (ai (U (x.vl p i) (q i) 0)) λw'=>∃d,w'=X.drewN d:=by
 obtain⟨fb,cap,O,V,M,-,-⟩:=h.cq I K hd hi;exact XH X M hq
def LG.below_calls(h:LG x B X bB bH cu cc vp vb vt p q)(I:JMx x nxt no)(K:E p<no)(hd:x.Hd p)(hi:i<x.nh p)(hq:q i<E (x.vl p i))(M:U (x.vl p i) (q i) 0=y):
 aF 199 #[pZ cu (i*2)] X (.pointer (Q (az (x.f (x.tk p i) (prt (x.H (x.tk p i)) p++[y])) 0))) λw'=>∃d,w'=X.drewN d:=by
 obtain⟨fb,cap,V,cb,O,-,hb⟩:=h.cq I K hd hi;have:=hb _ hq;rw[M]at this;exact XI X O hq this
end
def qAl{a0 a1:OA}{n0 c0 n1 c1}{a2:OA}{n2 c2}:
 aF 161 #[aQ #[Z a0 n0 c0,Z a1 n1 c1],Z a2 n2 c2] w (.func (.func 190) #[] #[pZ (J w.1) 0,pZ (J w.1+1) 0]) λw'=>w'=S (S w (eZ #[Z a0 n0 c0,Z a1 n1 c1] 180)) (eZ #[Z a2 n2 c2] 24):=by
 go_enter func161,ntmps161;go_wp2;go_ret;exact⟨rfl,rfl⟩
structure Frm(b l:Nat)(vp vb hvv:oV)(W:oX)(r:Bool):Prop where
 b3:BrX W b vp vb
 b4:W.1[b+1]?=Q (eZ #[hvv] 23 (0,0))
 b5:W.1[b+2]?=Q (eZ #[.func (.yield l) #[] #[]] 93 (0,0))
 b6:W.1[b+3]?=Q (eZ #[oB r] 4 (0,0))
section
variable {x:JX} {sS:Nat->Prop} {b l:Nat} {vp vb hvv:oV} {X Y:oX} {r:Bool}
def Frm.O(h:Frm b l vp vb hvv X r)(hb:Below B X Y)(hB:b+3<B):Frm b l vp vb hvv Y r:=
 ⟨(hb.block _ Oo).trans h.b3,(hb.block _ Oo).trans h.b4,(hb.block _ Oo).trans h.b5,(hb.block _ Oo).trans h.b6⟩
def Frm.lt(h:Frm b l vp vb hvv X r):b+3<J X.1:=qZ h.b6
def Frm.kp(h:Frm b l vp vb hvv X r)(I:KpS x sS X Y)(K:x.Ok)(M:TyR x X)(O:x.n0<=b):Frm b l vp vb hvv Y r:=
 ⟨I.same _ _ h.b3 (.inl rfl) (KpS.not K M O h.b3 (.inl Dd)),I.same _ _ h.b4 (.inl rfl) (KpS.not K M Oo h.b4 (.inl Dd)),I.same _ _ h.b5 (.inl rfl) (KpS.not K M Oo h.b5 (.inl Dd)),I.same _ _ h.b6 (.inl rfl) (KpS.not K M Oo h.b6 (.inl Dd))⟩
def Frm.c4(h:Frm b l vp vb hvv X r):eQ X (az (b+1) 0)=Q hvv:=by rw[eI h.b4];rfl
def Frm.c5(h:Frm b l vp vb hvv X r):eQ X (az (b+2) 0)=Q (.func (.yield l) #[] #[]):=by rw[eI h.b5];rfl
def Frm.c6(h:Frm b l vp vb hvv X r):eQ X (az (b+3) 0)=Q (oB r):=by rw[eI h.b6];rfl
def Frm.f6(h:Frm b l vp vb hvv X r):X.frozen? (az (b+3) 0)=false:=by unfold World.frozen?;rw[h.b6];simp
def Frm.set(h:Frm b l vp vb hvv X r)I:Frm b l vp vb hvv (sW X (az (b+3) 0) (oB I)) I/\KT (b+3) X (sW X (az (b+3) 0) (oB I)):=
 ⟨⟨(eG (by show b≠b+3;omega)).trans h.b3,(eG (by show b+1≠b+3;omega)).trans h.b4,(eG (by show b+2≠b+3;omega)).trans h.b5,by rw[eN h.b6];rfl⟩,KT.set _ eA h.b6 (.inr rfl)⟩
end
def HVs(x:JX)(no k:Nat)(v:oV):Prop:=∃hb o c,x.hv.ownBlock=Q hb/\v=sZ hb o (no-k) c/\(0<no-k->o=k)/\no-k<=c
def HVs.cell{no hb nxt}(K:JMx x nxt no)(hd:Dat x W)(M:k<no)(I:x.hv.ownBlock=Q hb):eQ W (az hb k)=Q (U x.uh k undef):=by
 obtain⟨g,cap,e,-,O⟩:=hd.hq.get (i:=k) (by rw[K.hl];exact M);rw[e]at I;have:g=hb:=by simpa[wN]using I
 rw[<-this];exact O
def KpS.keeps(h:KpS x (λk=>k=l) X Y)(I:x.Ok)(O:TyR x X)(hB:x.n0<=B)(hl:l<B):KeepsFrom B X Y:=by
 refine⟨h.size,λk o hk K ho=>h.same k o K (.inr Oo) λV=>?_⟩;have h1:=I.h;have h2:=I.r;have h3:=I.v;rcases V with e|e|e|e;omega;omega;omega;have⟨cur,z,M⟩:=O k e;rw[K]at M;cases M
 cases ho
def KpS.zu{sS}(h:Bl X Y)(I:x.r<J X.1):KpS x sS X Y:=(KpS.refl x sS X).kt (KT.zu h eA) I
structure WI(x:JX)(l:Nat)(iJ:WP)(Y0:oX)(vp vb hvv:oV)(W:oX):Prop where
 j:iJ W
 kp:KpS x (λk=>k=l) Y0 W
 fr:Frm (J Y0.1) l vp vb hvv W nF
 dat:Dat x W
def WI.kt(h:WI x l iJ Y0 vp vb hvv X)(K:x.Ok)(O:x.n0<=J Y0.1)(M:∀X Y,iJ X->KT x.n0 X Y->iJ Y)(I:KT B X Y)(hB:J Y0.1+3<B):WI x l iJ Y0 vp vb hvv Y:=
 ⟨M _ _ h.j (I.mono Oo),h.kp.kt (I.mono Oo) (O1 K.r),h.fr.O I.O hB,h.dat.kt (I.mono Oo) K⟩
structure WA(x:JX)(l:Nat)(iJ:WP)(Y0:oX)(vp vb hvv:oV)(p:LI)(y:Int)(v0 v1:oV)(bq:Nat)(W:oX):Prop where
 kp:KpS x (λk=>k=l) Y0 W
 fr:Frm (J Y0.1) l vp vb hvv W nF
 dat:Dat x W
 bx:BrX W bq v0 v1
 src:∃X,iJ X/\KT x.n0 X W/\x.n0<=J X.1/\Brn x (J X.1) W v0 v1 (p++[y])
def Brn.kt(h:Brn x B X vp vb p)(I:KT x.n0 X Y)(hB:x.n0<=B):Brn x B Y vp vb p:=h.sb I.sb hB
def WA.kt{bq}(h:WA x l iJ Y0 vp vb hvv p y v0 v1 bq X)(M:x.Ok)(hn:x.n0<=J Y0.1)(K:KT B X Y)(hB:J Y0.1+3<B):WA x l iJ Y0 vp vb hvv p y v0 v1 bq Y:=by
 have I:=K.mono (show x.n0<=B by omega);have⟨iZ,V,h2,O,h4⟩:=h.src;exact⟨h.kp.kt (K.mono Oo) (O1 M.r),h.fr.O K.O hB,h.dat.kt I M,(K.cel _ _ _ _ h.bx Dd Dd).trans h.bx,iZ,V,h2.trans I,O,h4.kt I O⟩
