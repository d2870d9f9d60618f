import Derived.Test.YtnpgdnaeghilhaaGreatEq06
import Derived.Test.YtnpgdnaeghilhaaGreatEq08
import Derived.Deep.Cut
import Derived.Laws.OwnMore
import Derived.Test.YtnpgdnaeghilhaaGreatEq02
import Derived.Carry
import Derived.Deep.Slices
import Derived.Lib.SmallJoins
import Derived.OpenShut
import Derived.ProofKit
import Derived.Test.YtnpgdnaeghilhaaGreatRows
import Derived.LoopIn
import Derived.LoopNIn
import Derived.OwnWalkIn
import Derived.RegionIn
import Derived.Shelf.Abstract
import Derived.Shelf.AbstractIn
import Derived.Shelf.RegionOpen
import Derived.TacticsInMore
import Derived.WalkMore
set_option maxHeartbeats 40000000
set_option maxRecDepth 1000000
namespace Go.Proofs.YtnpgdnaeghilhaaGreat
open Go.Proofs.Tryz Go.RowKit
section
variable {k x:Int}{b l o q r xs ps:LI}{bs ls L:LL}{tl:List TbV}{i j m B n c:Nat}{a t:TbV}{v vp vv vw vb:Value}{W w A X W':World}{f:LI->LI}
def xk(a b:TbV):TbV:=⟨a.vs,kpR (Z8 a.vs b.vs a.rows b.rows) a.rows a.rows.length,kpW (Z8 a.vs b.vs a.rows b.rows) a.ws a.rows.length⟩
theorem Agr.symm{a s}(h:Agr a b r s):Agr b a s r:=λv I K=>(h v K I).symm
theorem qGd{I vb rb}:UZ I vb rb r=true↔∃s∈rb,Agr I vb r s:=by
 unfold UZ Ya;rw[dE,(zQ _ _ eA).2,cC];refine exists_congr λs=>and_congr_right λ_=>?_;unfold qQ;rw[List.map_inj_left];exact⟨λh v K M=>(h v (cK.2 ⟨K,fD M⟩)).symm,λh v hv=>(h v (zu hv) (uA hv)).symm⟩
theorem VV{rows}{q:LI->Bool}:∀n,n<=rows.length->kpR (λi=>q (rows.getD i [])) rows n=(rows.take n).filter q
 |0,_=>by simp[kpR,kp]
 |n+1,h=>by
  have I:=VV (rows:=rows) (q:=q) n Oo;rw[tA,gE Oo,cZ,<-I,<-gdR (d:=[]) (show n<rows.length by omega)];cases e:q (rows.getD n [])
  rw[qBV rows e];show _=_++List.filter q [rows.getD n []];rw[List.filter_cons,e];simp;rw[qC7 rows e];show _=_++List.filter q [rows.getD n []];rw[List.filter_cons,e];simp
theorem Z5 a b:(xk a b).rows=a.rows.filter (UZ a.vs b.vs b.rows):=by
 show kpR _ a.rows a.rows.length=_;rw[show Z8 a.vs b.vs a.rows b.rows=(λi=>UZ a.vs b.vs b.rows (a.rows.getD i [])) from rfl,VV _ eA,tL]
theorem yr{b}:r∈(xk a b).rows↔r∈a.rows/\∃s∈b.rows,Agr a.vs b.vs r s:=by rw[Z5,cK,qGd]
structure OneT(t:TbV)(bv:LI):Prop where
 vs:t.vs=bv
 set:qb bv=true
 few:t.rows.length<=10000
 sl:SL t.rows
 len:∀r∈t.rows,r.length=bv.length
 ws:t.ws=zJ t.rows.length
theorem qFB(h:qW t=true):SL t.rows:=by
 have O:yM t.rows t.vs.length=true:=by
  unfold qW ql at h;rw[bV,bV]at h;exact h.1.2
 have step:∀i,i<t.rows.length->0<i->cmpL (t.rows.getD (i-1) []) (t.rows.getD i [])<0:=λi hi h0=>by
  unfold yM at O;have I:=aT.1 O i (cJ.2 hi);unfold rowAt at I;rw[bV,Bool.or_eq_true,dE,dE,dE]at I;rcases I.2 with V|V;omega;exact V
 have all:∀j,j<t.rows.length->∀i,i<j->cmpL (t.rows.getD i []) (t.rows.getD j [])<0:=by
  intro j;induction j with
  |zero=>intro _ i hi;omega
  |succ j ih=>
   intro K i hi;have I:=step _ K Oo;rw[Nat.add_sub_cancel]at I;by_cases e:i=j;rw[e];exact I;exact zi (ih Oo i Oo) I
 refine List.pairwise_iff_getElem.2 λi j hi K M=>?_;have:=all j K i M;rw[gdR hi,gdR K]at this;exact this
theorem OneT.tab{vs}(h:OneT t vs):qW t=true:=by
 unfold qW ql;rw[h.vs,h.ws,bV,bV,bV,dE,dE];refine⟨⟨⟨h.set,h.few⟩,jh λi hi=>?_⟩,uv⟩;unfold rowAt;rw[bV,Bool.or_eq_true,dE,dE,dE];refine⟨by rw[gdR hi,h.len _ (gM hi)],?_⟩;by_cases e:i=0;exact .inl e;refine .inr ?_;rw[gdR hi,gdR (show i-1<t.rows.length by omega)];exact List.pairwise_iff_getElem.1 h.sl _ i Oo _ Oo
theorem OneT.sem{b vs}(h:OneT a vs):OneT (xk a b) vs:=by
 refine⟨h.vs,h.set,?_,?_,λr I=>h.len r ((λr I=>(yr.1 I).1) r I),?_⟩;rw[Z5];exact bM (dH _ _) h.few;rw[Z5];exact h.sl.filter _;show kpW _ a.ws _=zJ (kpR _ _ _).length;unfold kpW kpR zJ;rw[lM,h.ws];refine List.eq_replicate_iff.2 ⟨lM _,λx K=>?_⟩;obtain⟨i,hi,rfl⟩:=cC.1 K;rw[gdR (by rw[uv];exact cJ.1 (cK.1 hi).1)];unfold zJ;rw[List.getElem_replicate]
theorem x6{α:Type}{l:List α}{d x}(hi:i<l.length):(l.set i x).getD j d=if j=i then x else l.getD j d:=by
 rw[gD,List.getElem?_set,gD];by_cases e:j=i;subst e;rw[fE rfl,fE rfl,fE hi];rfl;rw[fF (λh=>e h.symm),fF e]
def upT(par:NN)(T:List TbV):Nat->List TbV
 |0=>T
 |n+1=>(upT par T n).set (par n) (xk ((upT par T n).getD (par n) qA) ((upT par T n).getD n qA))
def dnT(par:NN)(m:Nat)(T:List TbV):Nat->List TbV
 |0=>T
 |j+1=>(dnT par m T j).set (m-1-j) (xk ((dnT par m T j).getD (m-1-j) qA) ((dnT par m T j).getD (par (m-1-j)) qA))
structure RdS(m:Nat)(B:Nat->LI)(R:Nat->LL)(An:(Int->Int)->Prop)(T:List TbV):Prop where
 len:T.length=m+1
 ok:∀i,i<=m->OneT (T.getD i qA) (B i)
 sub:∀i,i<=m->∀r∈(T.getD i qA).rows,r∈R i
 has:∀f,An f->∀i,i<=m->(B i).map f∈(T.getD i qA).rows
section
variable {m:Nat} {par:NN} {B:Nat->LI} {R:Nat->LL} {An:(Int->Int)->Prop} {T:List TbV}
theorem RdS.set(h:RdS m B R An T)(hB:∀i,(B i).Pairwise (·< ·)){p}(hi:i<=m)(O:p<=m):RdS m B R An (T.set i (xk (T.getD i qA) (T.getD p qA))):=by
 have hl:i<T.length:=O1 h.len
 refine⟨by rw[List.length_set];exact h.len,λl I=>?_,λl I r K=>?_,λf M l I=>?_⟩
 .rw[x6 hl];split
  .rename_i e;rw[e];exact(h.ok i hi).sem
  exact h.ok l I
 .rw[x6 hl]at K;split at K
  .rename_i e;rw[e];exact h.sub i hi r (yr.1 K).1
  exact h.sub l I r K
 rw[x6 hl];split
 .rename_i e;rw[e];refine yr.2 ⟨h.has f M i hi,_,h.has f M p O,?_⟩;rw[(h.ok i hi).vs,(h.ok p O).vs];exact λv I V=>by rw[Qi (hB i) f I,Qi (hB p) f V]
 exact h.has f M l I
def DnR(par:NN)(B:Nat->LI)(T:List TbV)(i:Nat):Prop:=∀s∈(T.getD (par i) qA).rows,∃r∈(T.getD i qA).rows,Agr (B i) (B (par i)) r s
def UpR(par:NN)(B:Nat->LI)(T:List TbV)(i:Nat):Prop:=∀r∈(T.getD i qA).rows,∃s∈(T.getD (par i) qA).rows,Agr (B i) (B (par i)) r s
theorem VW(hB:∀i,(B i).Pairwise (·< ·))(K:∀i,i<m->i<par i/\par i<=m)(h:RdS m B R An T):∀n,n<=m->RdS m B R An (upT par T n)/\∀i,i<n->DnR par B (upT par T n) i
 |0,_=>⟨h,λi hi=>Oo⟩
 |n+1,hn=>by
  have⟨I,V⟩:=VW hB K h n Oo;have⟨p1,M⟩:=K n Oo;have hl:par n<(upT par T n).length:=O1 I.len
  refine⟨I.set hB M Oo,λi hi=>?_⟩;show DnR par B ((upT par T n).set (par n) _) i;unfold DnR;intro s hs;have⟨q1,q2⟩:=K i Oo;rw[x6 hl]at hs;rw[x6 hl,fF (show ¬i=par n by omega)];by_cases e:i=n;subst e;rw[fE rfl]at hs;have⟨h3,r,hr,O⟩:=yr.1 hs;rw[(I.ok _ M).vs,(I.ok i Oo).vs]at O;exact⟨r,hr,O.symm⟩;refine V i Oo s ?_;split at hs
  .rename_i e2;rw[e2];exact(yr.1 hs).1
  exact hs
theorem qBK(hB:∀i,(B i).Pairwise (·< ·))(V:∀i,i<m->i<par i/\par i<=m)(h:RdS m B R An T)(hd:∀i,i<m->DnR par B T i):∀n,n<=m->RdS m B R An (dnT par m T n)/\(∀i,i<m->DnR par B (dnT par m T n) i)/\∀i,m-n<=i->i<m->UpR par B (dnT par m T n) i
 |0,_=>⟨h,hd,λi I h2=>Oo⟩
 |n+1,hn=>by
  have⟨I,h2,h3⟩:=qBK hB V h hd n Oo;have⟨j,hj⟩:=Ex (m-1-n);have⟨p1,p2⟩:=V j Oo;have hl:j<(dnT par m T n).length:=O1 I.len
  have e0:dnT par m T (n+1)=(dnT par m T n).set j (xk ((dnT par m T n).getD j qA) ((dnT par m T n).getD (par j) qA)):=by rw[hj];rfl
  rw[e0];generalize dnT par m T n=T at *;refine⟨I.set hB Oo p2,λi hi=>?_,λi a3 M=>?_⟩
  .unfold DnR;intro s hs;have⟨q1,q2⟩:=V i hi;rw[x6 hl]at hs;by_cases e:i=j;subst e;rw[fF (show ¬par i=i by omega)]at hs;have⟨r,K,O⟩:=h2 i hi s hs;refine⟨r,?_,O⟩;rw[x6 hl,fE rfl];refine yr.2 ⟨K,s,hs,?_⟩;rw[(I.ok i Oo).vs,(I.ok _ q2).vs];exact O;rw[x6 hl,fF e];refine h2 i hi s ?_;split at hs
   .rename_i e2;rw[e2];exact(yr.1 hs).1
   exact hs
  unfold UpR;intro r K;have⟨q1,q2⟩:=V i M;rw[x6 hl]at K;rw[x6 hl,fF (show ¬par i=j by omega)];by_cases e:i=j;subst e;rw[fE rfl]at K;obtain⟨-,s,hs,O⟩:=yr.1 K;rw[(I.ok i Oo).vs,(I.ok _ q2).vs]at O;exact⟨s,hs,O⟩;rw[fF e]at K;exact h3 i Oo M r K
theorem qIC(hB:∀i,(B i).Pairwise (·< ·))(K:∀i,i<m->i<par i/\par i<=m)(rip:∀j,j<m->∀l,j<l->l<=m->∀v,v∈B j->v∈B l->v∈B (par j))(hA:∀f:Int->Int,(∀l,l<=m->(B l).map f∈R l)->An f)(h:RdS m B R An T)(hi:i<=m):
 OneT ((dnT par m (upT par T m) m).getD i qA) (B i)/\∀r,r∈((dnT par m (upT par T m) m).getD i qA).rows↔∃f,An f/\(B i).map f=r:=by
 have⟨h1,h2⟩:=VW hB K h m eA;have⟨I,h4,h5⟩:=qBK hB K h1 h2 m eA;refine⟨I.ok i hi,λr=>⟨λM=>?_,?_⟩⟩;have⟨f,O,V⟩:=qGc hB (λi hi r M=>(I.ok i hi).len r M) K rip (λi hi=>h5 i Oo hi) (λi hi=>h4 i hi) m eA i Oo hi r M;exact⟨f,hA f λl hl=>I.sub l hl _ (V l Oo hl),O⟩;rintro⟨f,hf,rfl⟩;exact I.has f hf i hi
theorem UU par m T:∀n,(dnT par m T n).length=T.length
 |0=>rfl
 |n+1=>by
  show(List.set _ _ _).length=_;rw[List.length_set,UU par m T n]
theorem XZ par T:∀n,(upT par T n).length=T.length
 |0=>rfl
 |n+1=>by
  show(List.set _ _ _).length=_;rw[List.length_set,XZ par T n]
end
theorem qCX(h:l.Pairwise (·< ·))(hb:∀x∈l,0<=x/\x<6):qb l=true:=QI λi hi=>by
 have K:l.getD i 0=l[i]:=by rw[gD,gE hi];rfl
 have I:=hb _ (gM hi);rw[<-K]at I;unfold xV;rw[bV,bV,Bool.or_eq_true,dE,dE,dE,dE];refine⟨⟨I.1,I.2⟩,?_⟩;by_cases e:i=0;exact .inl e;refine .inr ?_;have M:l.getD (i-1) 0=l[i-1]:=by rw[gD,gE Oo];rfl
 rw[K,M];exact List.pairwise_iff_getElem.1 h _ i Oo _ Oo
theorem XM(h:qb l=true)(K:x∈l):0<=x/\x<6:=by
 obtain⟨i,hi,rfl⟩:=gO K;have I:=Q8 h i hi;rw[gD,gE hi]at I;have M:(i:Int)<=l[i]:=I.1;exact⟨Oo,I.2⟩
def prR(b:LI)(t:TbV):LL:=srt (t.rows.map (qQ t.vs (shr t.vs b)))
def prT(b:LI)(t:TbV):TbV:=⟨shr t.vs b,prR b t,zJ (prR b t).length⟩
def hasB(b:LI)(t:TbV):Bool:=decide (0<(shr t.vs b).length)
def yZ(tl:List TbV)(b:LI):List TbV:=(tl.filter (hasB b)).map (prT b)
theorem J5 b:(yZ tl b).length<=tl.length:=by
 unfold yZ;rw[lM];exact dH _ _
theorem qEI(I:j<tl.length):yZ (tl.take (j+1)) b=yZ (tl.take j) b++(if hasB b (tl.getD j qA) then [prT b (tl.getD j qA)] else []):=by
 unfold yZ;rw[tA,gE I,cZ,mA,gD,gE I];show _++List.map (prT b) (List.filter (hasB b) [tl[j]])=_++(if hasB b tl[j] then [prT b tl[j]] else []);rw[List.filter_cons];split <;> rfl
theorem qIf b:SL (prR b t)/\(prR b t).length<=t.rows.length/\∀r∈prR b t,r.length=(shr t.vs b).length:=by
 unfold prR;have I:=zQ _ (t.rows.map (qQ t.vs (shr t.vs b))) eA;have K:=yK _ (t.rows.map (qQ t.vs (shr t.vs b))) eA;rw[lM]at K;refine⟨I.1,K,λr M=>?_⟩;obtain⟨q,-,rfl⟩:=cC.1 ((I.2 r).1 M);exact vZ
theorem qHB(h:qW t=true)b:qW (prT b t)=true:=by
 have⟨K,O,V⟩:=qL h;have⟨g1,g2,g3⟩:=qIf (t:=t) b;show ql (shr t.vs b) (prR b t) (zJ (prR b t).length)=true;generalize prR b t=R at *;unfold ql;rw[bV,bV,bV,dE,dE];refine⟨⟨⟨qCX (Z9 (xK K)) λx M=>XM K (zu M),Oo⟩,jh λi hi=>?_⟩,uv⟩;have I:∀{i:Nat} (hi:i<R.length),R.getD i []=R[i]:=λ{i} hi=>by rw[gD,gE hi];rfl
 unfold rowAt;rw[bV,Bool.or_eq_true,dE,dE,dE];refine⟨by rw[I hi,g3 _ (gM hi)],?_⟩;by_cases e:i=0;exact .inl e;refine .inr ?_;rw[I hi,I (show i-1<R.length by omega)];exact List.pairwise_iff_getElem.1 g1 _ i Oo _ Oo
def bgR(tl:List TbV)(b:LI):LL:=qO (yZ tl b) b
def bgT(tl:List TbV)(b:LI):TbV:=⟨b,bgR tl b,zJ (bgR tl b).length⟩
def bgV(tl:List TbV)(b:LI):Int:=zK (yZ tl b) b
def qc(k:Int)(tl:List TbV)(bs:LL)(ps hs:LI)(ws:LP)(x:Int×Int):Bool:=tl.all qW&&zX k (tl.map TbV.vs) bs ps hs ws x
def jQ(k:Int)(tl:List TbV)(bs:LL)(ps hs:LI)(ws:LP)(x:Int×Int):Bool:=qc k tl bs ps hs ws x&&bs.all λb=>decide (0<=bgV tl b)
def vF(k:Int)(tl:List TbV)(bs:LL)(ps hs:LI)(ws:LP)(x:Int×Int):List TbV:=if jQ k tl bs ps hs ws x then bs.map (bgT tl) else []
def yh(k:Int)(tl:List TbV)(bs:LL)(ps hs:LI)(ws:LP)(x:Int×Int):Int:=if jQ k tl bs ps hs ws x then (bs.map (bgV tl)).sum else -1
theorem zR{hs ws x}(h:qc k tl bs ps hs ws x=true):tl.all qW=true/\xN k (tl.map TbV.vs)=true/\bs.length<=12/\tl.length<=7/\∀i,i<bs.length->xU k (bs.getD i [])=true/\qb (bs.getD i [])=true:=by
 unfold qc zX at h;rw[bV,bV,bV,bV,bV,bV]at h;obtain⟨V,⟨⟨⟨⟨M,I⟩,-⟩,-⟩,-⟩,-⟩:=h;have O:=jm (xA M).2.2;rw[lM]at O;unfold yf at I;rw[bV,dE,aT]at I;refine⟨V,M,I.1,O,λi hi=>?_⟩;have K:=I.2 (bs.getD i []) (by rw[gD,gE hi];exact gM hi);refine⟨K,?_⟩;unfold xU at K;rw[bV,bV]at K;exact K.1.2
theorem qCY:zK tl o<=60000:=by
 unfold zK;by_cases h:okJ tl o&&smJ tl o o.length;rw[fE h];rw[bV]at h;have I:=h.1;unfold okJ at I;rw[bV]at I;have K:=(xp.1 I.2).length_eq;have M:=XV tl;have O:=qAr h.2;omega;rw[fF h];omega
theorem qCZ:-1<=zK tl o:=by
 unfold zK;split <;> omega
def uB(tl:List TbV)(bs:LL)(j:Nat):Int:=((bs.take j).map (bgV tl)).sum
theorem Uj(I:j<bs.length):uB tl bs (j+1)=uB tl bs j+bgV tl (bs.getD j []):=by
 unfold uB;rw[tA,gE I,mA,List.sum_append,gD,gE I];simp
theorem qCa tl(bs:LL):∀j,j<=bs.length->-1*(j:Int)<=uB tl bs j/\uB tl bs j<=60000*(j:Int)
 |0,_=>by simp[uB]
 |j+1,h=>by
  have I:=qCa tl bs j Oo;rw[Uj Oo];have K:bgV tl (bs.getD j [])<=60000:=qCY;have M:-1<=bgV tl (bs.getD j []):=qCZ;omega
section
variable {k:Int} {tl:List TbV} {bs:LL} {ps hs:LI} {ws:LP} {x:Int×Int}
theorem qJc(h:qc k tl bs ps hs ws x=false):vF k tl bs ps hs ws x=[]/\yh k tl bs ps hs ws x=-1:=by
 unfold vF yh jQ;rw[h,Bool.false_and];exact⟨rfl,rfl⟩
theorem qIg(I:j<bs.length)(h:bgV tl (bs.getD j [])<0):vF k tl bs ps hs ws x=[]/\yh k tl bs ps hs ws x=-1:=by
 have e:(bs.all λb=>decide (0<=bgV tl b))=false:=by
  rw[List.all_eq_false];refine⟨bs.getD j [],by rw[gD,gE I];exact gM I,?_⟩;rw[fC Oo];decide
 unfold vF yh jQ;rw[e,Bool.and_false];exact⟨rfl,rfl⟩
theorem qIh(h:qc k tl bs ps hs ws x=true)(hv:∀i,i<bs.length->0<=bgV tl (bs.getD i [])):vF k tl bs ps hs ws x=bs.map (bgT tl)/\yh k tl bs ps hs ws x=uB tl bs bs.length:=by
 have e:(bs.all λb=>decide (0<=bgV tl b))=true:=by
  rw[aT];intro b hb;obtain⟨i,hi,rfl⟩:=gO hb;have:=hv i hi;rw[gD,gE hi]at this;exact fD this
 unfold vF yh jQ uB;rw[e,h,tL];exact⟨rfl,rfl⟩
end
theorem qEJ(I:j<bs.length):(bs.take (j+1)).map (bgT tl)=(bs.take j).map (bgT tl)++[bgT tl (bs.getD j [])]:=by
 rw[tA,gE I,mA,gD,gE I];rfl
def upR(k:Nat):LI:=(List.range k).map Int.ofNat
theorem zO k:(upR k).length=k:=by simp[upR]
theorem qBG k:upR (k+1)=upR k++[(k:Int)]:=by unfold upR;rw[dQ,mA];rfl
def orT(top:Int)(ps:LI):LI:=ps.map λx=>if x<0 then top else x
theorem vB top ps:(orT top ps).length=ps.length:=lM _
theorem uN w(k:Nat)(hk:k<=1000):
 Cl 63 #[ai (k:Int)] w λe w'=>∃v,e=.returned v/\w'.ownsRow w.1.size 3 1 v (upR k).length ((upR k).map ai)/\Bl w w':=by
 have⟨i0,hi,a3,a4,a5⟩:=aX Tryz.infoInt;have HP:Hh (∀j,(upR (j+1)).map ai=(upR j).map ai++[ai (j:Int)]):=λj=>by rw[qBG,mA];rfl
 have a6:Hh ((upR 0).map ai=[]):=rfl;rw[zO];go_enter func63,ntmps63;go_wp2_with (at_make;refine wpList_make_own _ rfl _ _ 24 rfl _ 3 _ _ 1 underlying24 hi a3 a4 _ _ _ k rfl rfl rfl ?b2 ?b3 eA ?_)
 case b2=>rw[a5];omega
 case b3=>unfold maxLen;omega
 intro w0 K I;have O:Hh (w0.ownsRow w.1.size 3 1 (sZ w.1.size 0 0 k) 0 []/\Bl w w0):=⟨K,eB.grown I eA (λj hj=>by cases hj)⟩;go_wp2;go_loopw [3,8] (λu t wr=>∃(j:Nat) (vo:Value),j<=k/\t=ai j/\vo=u/\Hh (wr.ownsRow w.1.size 3 1 vo j ((upR j).map ai)/\Bl w wr)) (λ_ t _=>k-(intOf t).toNat);exact⟨0,_,eC,rfl,rfl,ay ⟨a6.o▸O.1,O.2⟩⟩;obtain⟨j,vo,hj,rfl,rfl,HT⟩:=hrel;by_cases b7:j<k
 .have i1:=aV b7;have a7:=ay (HP j);have a8:=HT.2.size;go_wp2_with (at_builtin;refine wpList_append_lies _ rfl _ _ 24 rfl _ 3 _ _ 1 8 underlying24 hi a3 a4 a5 rfl Dd vo _ _ rfl (HT.o.1.alloc _) (az _ 0) 1 1 _ rfl rfl (qH _ _ _) (λu hu=>by simp at hu;subst hu;rfl) Dd Um Oo Sy _ rfl ?_;intro g3 cp3 w4 V M a9 b1);go_roundw;exact⟨j+1,_,Oo,Gg,rfl,ay ⟨a7.o▸V,(HT.2.alloc a8 _).grown M Sy (λq hq=>(HT.1.lt q hq).1)⟩⟩;exact Im
 obtain rfl:j=k:=Oo;go_wp2;go_ret;exact⟨_,rfl,HT.1,HT.2⟩
theorem Xy w(top:Nat)(hp:IS w vp ps)(hl:ps.length<=1000):
 Cl 88 #[vp,ai (top:Int)] w λe w'=>∃v,e=.returned v/\w'.ownsRow w.1.size 3 1 v ps.length ((orT top ps).map ai)/\Bl w w':=by
 have⟨i0,hi,a4,a5,a6⟩:=info_parts Tryz.infoInt;obtain⟨a,c,rfl,hc⟩:=hp;have HC:Hh (∀W,Bl w W->∀j,j<ps.length->∃(b o:Nat),a=some (az b o)/\aC W b (o+j) (ai (ps.getD j 0))):=λW hW j hj=>by
  rcases hc with h2|⟨b,o,rfl,h2⟩;omega;exact⟨b,o,rfl,(hW.cell (bL w _ (h2 j hj))).trans (h2 j hj)⟩
 have HP:Hh (∀j,j<ps.length->(orT top (ps.take (j+1))).map ai=(orT top (ps.take j)).map ai++[ai (if ps.getD j 0<0 then (top:Int) else ps.getD j 0)]):=λj hj=>by
  unfold orT;rw[tA,gE hj,mA,mA,gdR hj];rfl
 have a8:Hh ((orT top (ps.take 0)).map ai=[]):=rfl;have a9:Hh (orT top (ps.take ps.length)=orT top ps):=ay (by rw[tL]);have⟨n,hn⟩:=Ex ps.length;rw[<-hn]at HC HP a9 hl |-;clear hn;go_enter func88,ntmps88;go_wp2_with (at_make;refine wpList_make_own _ rfl _ _ 24 rfl w.1.size 3 _ _ 1 underlying24 hi a4 a5 _ _ _ (n+1) rfl rfl Gg ?b2 ?b3 Oo ?_)
 case b2=>rw[a6];omega
 case b3=>unfold maxLen;omega
 intro w0 O M;have a7:Hh (w0.ownsRow w.1.size 3 1 (sZ w.1.size 0 0 (n+1)) 0 []/\Bl w w0):=⟨O,eB.grown M eA (λj hj=>by cases hj)⟩;go_wp2;go_loopw [5,14] (λu t wr=>∃(j:Nat) (vo:Value),j<=n/\t=ai j/\vo=u/\Hh (wr.ownsRow w.1.size 3 1 vo j ((orT top (ps.take j)).map ai)/\Bl w wr)) (λ_ t _=>n-(intOf t).toNat);exact⟨0,_,nZ _,rfl,rfl,ay ⟨a8.o▸a7.1,a7.2⟩⟩;obtain⟨j,vo,hj,rfl,rfl,V⟩:=hrel;by_cases b1:j<n
 .have i1:=aV b1;have⟨b,o,ea,e1⟩:=HC _ V.2 j b1;subst ea;have a3:=ay (HP j b1);have b7:=V.2.size;generalize ps.getD j 0=y at *;by_cases hy:y<0
  .rw[fE hy]at a3;go_wp2_with (at_builtin;refine wpList_append_lies _ rfl _ _ 24 rfl _ 3 _ _ 1 8 underlying24 hi a4 a5 a6 rfl Dd vo _ _ rfl (V.o.1.alloc _) (az _ 0) 1 1 _ rfl rfl (qH _ _ _) (λu hu=>by simp at hu;subst hu;rfl) Dd Um Oo Sy _ rfl ?_;intro g3 cp3 w4 K I b8 b9);go_roundw;exact⟨j+1,_,Oo,Gg,rfl,ay ⟨a3.o▸K,(V.2.alloc b7 _).grown I Sy (λq hq=>(V.1.lt q hq).1)⟩⟩;exact Im
  rw[fF hy]at a3;go_wp2_with (at_builtin;refine wpList_append_lies _ rfl _ _ 24 rfl _ 3 _ _ 1 8 underlying24 hi a4 a5 a6 rfl Dd vo _ _ rfl (V.o.1.alloc _) (az _ 0) 1 1 _ rfl rfl (qH _ _ _) (λu hu=>by simp at hu;subst hu;rfl) Dd Um Oo Sy _ rfl ?_;intro g3 cp3 w4 K I b8 b9);go_roundw;exact⟨j+1,_,Oo,Gg,rfl,ay ⟨a3.o▸K,(V.2.alloc b7 _).grown I Sy (λq hq=>(V.1.lt q hq).1)⟩⟩;exact Im
 obtain rfl:j=n:=Oo;go_wp2;go_ret;have h2:=V.1;rw[a9.o]at h2;exact⟨_,rfl,h2,V.2⟩
section
variable {v:Int} {bs:LL} {ps:LI}
theorem JD:∀{n i:Nat},i<n->xI v bs ps i=true->1<=qu v bs ps n
 |n+1,i,hi,h=>by
  show 1<=qu v bs ps n+if xI v bs ps n then 1 else 0
  by_cases e:i=n;subst e;rw[fE h];omega;exact bM (JD Oo h) (Nat.le_add_right _ _)
theorem JE:∀{n i j:Nat},i<j->j<n->xI v bs ps i=true->xI v bs ps j=true->2<=qu v bs ps n
 |n+1,i,j,hij,hj,h1,h2=>by
  show 2<=qu v bs ps n+if xI v bs ps n then 1 else 0
  by_cases e:j=n;subst e;have:=JD hij h1;rw[fE h2];omega;exact bM (JE hij Oo h1 h2) (Nat.le_add_right _ _)
theorem qBL(I:xH ps bs.length=true)(hi:i<bs.length):ps.getD i 0=-1\/((i:Int)<ps.getD i 0/\ps.getD i 0<(bs.length:Int)):=by
 unfold xH at I;rw[bV,dE]at I;have h:=aT.1 I.2 i (cJ.2 (O1 I.1));unfold vH at h;rw[Bool.or_eq_true,bV,dE,dE,dE]at h;exact h
theorem qG3(K:xH ps bs.length=true):∀n l,bs.length-l<=n->l<bs.length->v∈bs.getD l []->∃t,l<=t/\t<bs.length/\xI v bs ps t=true
 |0,l,h1,I,_=>Oo
 |n+1,l,h1,I,hv=>by
  by_cases e:xI v bs ps l=true;exact⟨l,eA,I,e⟩;have M:0<=ps.getD l 0/\v∈bs.getD (ps.getD l 0).toNat []:=by
   refine Classical.byContradiction λO=>e ?_;unfold xI;rw[fD hv,dG,Bool.not_eq_true',Bool.and_eq_false_iff,aP,aP];exact Classical.not_and_iff_not_or_not.1 O
  rcases qBL K I with V|V;omega;have⟨t,h4,h5⟩:=qG3 K n (ps.getD l 0).toNat Oo Oo M.2;exact⟨t,Oo,h5⟩
def xO(ps:LI)(m i:Nat):Nat:=if ps.getD i 0<0 then m else (ps.getD i 0).toNat
theorem vC(I:xH ps bs.length=true):∀i,i<bs.length->i<xO ps bs.length i/\xO ps bs.length i<=bs.length:=λi hi=>by
 unfold xO;rcases qBL I hi with h|h;rw[fE Oo];omega;rw[fF Oo];omega
theorem qJW(hb:yf k bs=true)(hp:xH ps bs.length=true)(V:uK k bs ps=true):∀j,j<bs.length->∀l,j<l->l<=bs.length->∀v,v∈bs.getD j []->v∈bs.getD l []->v∈bs.getD (xO ps bs.length j) []:=λj hj l a3 hl v h1 K=>by
 have M:l<bs.length:=by
  rcases dL l bs.length with h|h;exact h;rw[gD,gN h]at K;cases K
 refine Classical.byContradiction λhc=>?_;have e:xI v bs ps j=true:=by
  unfold xI;rw[fD h1,dG,Bool.not_eq_true',Bool.and_eq_false_iff,aP,aP];refine Classical.not_and_iff_not_or_not.1 λh3=>hc ?_;unfold xO;rw[fF Oo];exact h3.2
 have⟨t,h3,h4,h5⟩:=qG3 hp bs.length l Oo M K;have h6:=JE (show j<t by omega) h4 e h5;unfold yf at hb;rw[bV,aT]at hb;have I:=hb.2 _ (qz (d:=[]) hj);unfold xU at I;rw[bV,bV]at I;have⟨h8,h9⟩:=Qf I.1.2 I.2 h1;unfold uK at V;have O:=aN (aT.1 V v.toNat (cJ.2 Oo));rw[show((v.toNat:Nat):Int)=v by omega]at O;omega
end
def AnJ(tl:List TbV)(f:Int->Int):Prop:=∀t∈tl,t.vs.map f∈t.rows
theorem xL(h:0<=zK tl o):okJ tl o=true/\qO tl o=lvJ tl o o.length:=by
 unfold zK at h;unfold qO;by_cases e:(okJ tl o&&smJ tl o o.length)=true;rw[fE e];rw[bV]at e;exact⟨e.1,rfl⟩;rw[fF e]at h;omega
theorem QH(h:okJ tl o=true):tl.length<=8/\(∀t∈tl,qW t=true)/\jd tl o=true:=by
 unfold okJ at h;rw[bV,bV,dE,aT]at h;exact⟨h.1.1,h.1.2,h.2⟩
theorem jz(h:okJ tl o=true)(ho:o.Pairwise (·< ·)):qDx tl o:=by
 obtain⟨-,K,M⟩:=QH h;refine⟨ho,YQ M,λt I=>?_,λt I=>(qL (K t I)).2.2⟩;have O:=(qL (K t I)).1;refine⟨xK O,λx V=>(xp.1 M).subset ?_⟩;have⟨h4,h5⟩:=XM O V;refine y7.2 ⟨x.toNat,Oo,?_,Oo⟩;unfold qp;exact List.any_eq_true.2 ⟨t,I,fD (by rw[show((x.toNat:Nat):Int)=x by omega];exact V)⟩
theorem row_one(h:0<=zK tl o)(hs:qb o=true):OneT ⟨o,qO tl o,zJ (qO tl o).length⟩ o:=by
 refine⟨rfl,hs,y8.1,?_,?_,rfl⟩;rw[(xL h).2];exact qIB;rw[(xL h).2];exact jx
section
variable {k:Int} {tl:List TbV} {bs:LL} {ps hs:LI} {ws:LP} {x:Int×Int}
theorem qC3(h:0<=bgV tl b)(hs:qb b=true)f:b.map f∈bgR tl b↔∀t∈tl,hasB b t=true->∃r∈t.rows,qQ t.vs (shr t.vs b) r=(shr t.vs b).map f:=by
 have⟨M,O⟩:=xL h;show b.map f∈qO (yZ tl b) b↔_;rw[O,vz (jz M (xK hs))];have e:∀t,(prT b t).vs.map f∈(prT b t).rows↔∃r∈t.rows,qQ t.vs (shr t.vs b) r=(shr t.vs b).map f:=λt=>by
  show _∈srt _↔_;rw[(zQ _ _ eA).2,cC];exact Iff.rfl
 constructor;exact λI t K hb=>(e t).1 (I _ (dF (cK.2 ⟨K,hb⟩)));intro I t K;obtain⟨s,hs,rfl⟩:=cC.1 K;have⟨V,h5⟩:=cK.1 hs;exact(e s).2 (I s V h5)
def woJ(tl:List TbV):List TbV:=tl.filter λt=>decide (t.vs.length=0)
def yt(tl:List TbV):LL:=qO (woJ tl) []
def ZA(tl:List TbV):TbV:=⟨[],yt tl,zJ (yt tl).length⟩
theorem qBM(h:∀t∈tl,qW t=true)(hl:tl.length<=8):0<=zK (woJ tl) []:=by
 have e:okJ (woJ tl) []=true:=by
  unfold okJ;rw[bV,bV,dE,aT];refine⟨⟨bM (dH _ _) hl,λt I=>h t (cK.1 I).1⟩,xp.2 ?_⟩;have O:vrJ (woJ tl)=[]:=by
   refine List.eq_nil_iff_forall_not_mem.2 λx V=>?_;obtain⟨i,-,K,-⟩:=y7.1 V;unfold qp at K;have⟨t,I,M⟩:=List.any_eq_true.1 K;have h3:=dV.1 (aN (cK.1 I).2);rw[dE,h3]at M;cases M
  rw[O]
 rw[(vY e).2];have e3:smJ (woJ tl) [] ([]:LI).length=true:=rfl;rw[fE e3];omega
theorem ZB(h:∀t∈tl,qW t=true)(hl:tl.length<=8)f:[]∈yt tl↔∀t∈tl,t.vs.length=0->t.vs.map f∈t.rows:=by
 have⟨M,O⟩:=xL (qBM h hl);unfold yt;rw[O];refine(vz (jz M List.Pairwise.nil) f).trans ⟨λI t K V=>I t (cK.2 ⟨K,fD V⟩),λI t K=>?_⟩;have⟨h4,h5⟩:=cK.1 K;exact I t h4 (aN h5)
def ZC(tl:List TbV)(bs:LL)(i:Nat):LL:=if i<bs.length then bgR tl (bs.getD i []) else yt tl
def ZD(tl:List TbV)(bs:LL):List TbV:=bs.map (bgT tl)++[ZA tl]
theorem qC4(hi:i<bs.length):(ZD tl bs).getD i qA=bgT tl (bs.getD i []):=by
 unfold ZD;rw[gD,aL (by rw[lM];exact hi),bK,gE hi,gdR hi];rfl
theorem qBN:(ZD tl bs).getD bs.length qA=ZA tl:=by
 unfold ZD;rw[gD,bQ (by rw[lM];exact eA),lM,Nat.sub_self];rfl
theorem yu{α:Type}{l:List α}{d}(h:l.length<=i):l.getD i d=d:=by
 rw[gD,gN h];rfl
theorem Z6(h:qc k tl bs ps hs ws x=true):yf k bs=true/\xH ps bs.length=true/\uK k bs ps=true/\yp hs (tl.map TbV.vs) bs=true:=by
 unfold qc zX at h;rw[bV,bV,bV,bV,bV,bV]at h;obtain⟨-,⟨⟨⟨⟨-,I⟩,K⟩,M⟩,O⟩,-⟩:=h;exact⟨I,K,M,O⟩
theorem qID(h:qc k tl bs ps hs ws x=true)i:(bs.getD i []).Pairwise (·< ·):=by
 rcases dL i bs.length with hi|hi;exact xK ((zR h).2.2.2.2 i hi).2;rw[yu hi];exact List.Pairwise.nil
theorem VX(h:qc k tl bs ps hs ws x=true)(hv:∀i,i<bs.length->0<=bgV tl (bs.getD i []))f:(∀l,l<=bs.length->(bs.getD l []).map f∈ZC tl bs l)↔AnJ tl f:=by
 have⟨h0,h1,h2,h3,h4⟩:=zR h;have V:=λt I=>aT.1 h0 t I;constructor
 .intro hl t I;by_cases e:t.vs.length=0;have K:=hl _ eA;unfold ZC at K;rw[fF Oo,yu eA]at K;exact(ZB V Oo f).1 K t I e;obtain⟨i,hi,rfl⟩:=gO I;have K:=(Z6 h).2.2.2;unfold yp at K;rw[bV]at K;have h6:=aT.1 K.2 i (cJ.2 (by rw[lM];exact hi));have e3:(tl.map TbV.vs).getD i []=tl[i].vs:=by rw[gdR (by rw[lM];exact hi),fB]
  unfold zm at h6;rw[e3,fF e,bV,bV,dE,dE,aT]at h6;have⟨⟨h7,h8⟩,h9⟩:=h6;generalize (hs.getD i 0)=g at *;have M:=hl g.toNat Oo;unfold ZC at M;rw[fE Oo,qC3 (hv _ Oo) (h4 _ Oo).2]at M;have e4:shr tl[i].vs (bs.getD g.toNat [])=tl[i].vs:=List.filter_eq_self.2 λy hy=>h9 y hy;have⟨r,hr,e5⟩:=M _ I (by unfold hasB;rw[e4];exact fD Oo);rw[e4]at e5;have O:=qL (V _ I);rw[show qQ tl[i].vs tl[i].vs r=r from jy (xK O.1) (O.2.2 r hr)]at e5;rw[<-e5];exact hr
 intro hA l hl;unfold ZC;by_cases e:l<bs.length;rw[fE e,qC3 (hv _ e) (h4 _ e).2];exact λt I _=>⟨_,hA t I,US (xK (qL (V t I)).1) (λy hy=>zu hy) f⟩;rw[fF e,yu Oo];exact(ZB V Oo f).2 λt I _=>hA t I
theorem qFC(h:qc k tl bs ps hs ws x=true)(hv:∀i,i<bs.length->0<=bgV tl (bs.getD i [])):RdS bs.length (λi=>bs.getD i []) (ZC tl bs) (AnJ tl) (ZD tl bs):=by
 have⟨M,h1,h2,h3,O⟩:=zR h;have K:∀i,i<=bs.length->((ZD tl bs).getD i qA).rows=ZC tl bs i:=λi hi=>by
  unfold ZC;by_cases e:i<bs.length;rw[fE e,qC4 e];rfl;rw[fF e,show i=bs.length by omega,qBN];rfl
 refine⟨by unfold ZD;rw[lA,lM];rfl,λi hi=>?_,λi hi r I=>by rw[<-K i hi];exact I,λf hf i hi=>by rw[K i hi];exact(VX h hv f).2 hf i hi⟩;by_cases e:i<bs.length;rw[qC4 e];exact row_one (hv i e) (O i e).2;rw[show i=bs.length by omega,qBN];rw[yu eA];exact row_one (qBM (λt ht=>aT.1 M t ht) Oo) rfl
theorem uO k:(upR k).Pairwise (·< ·):=List.pairwise_map.2 (List.pairwise_lt_range.imp λh=>Int.ofNat_lt.2 h)
theorem uw{k y}:y∈upR k↔0<=y/\y<k:=by
 unfold upR;rw[cC];constructor;rintro⟨i,hi,rfl⟩;have:=cJ.1 hi;show(0:Int)<=i/\(i:Int)<k;omega;exact λh=>⟨y.toNat,cJ.2 Oo,by show((y.toNat:Nat):Int)=y;omega⟩
theorem qBO{k}(h:i<k):(upR k).getD i 0=(i:Int):=by
 rw[gdR (by rw[zO];exact h)];unfold upR;rw[fB,List.getElem_range];rfl
theorem qJi(h:qc k tl bs ps hs ws x=true):okJ tl (upR k.toNat)=true:=by
 have⟨h0,I,h2,h3,h4⟩:=zR h;obtain⟨k0,k6,-⟩:=xA I;unfold xN at I;rw[bV,bV,aT,aT]at I;obtain⟨⟨-,h5⟩,h6⟩:=I;unfold okJ;rw[bV,bV,dE];refine⟨⟨Oo,h0⟩,xp.2 ?_⟩;unfold vrJ;rw[J2 (qAu (qp tl) 6) (uO k.toNat) λy=>?_];rw[uw,y7];constructor;rintro⟨i,hi,M,rfl⟩;unfold qp at M;have⟨t,K,h8⟩:=List.any_eq_true.1 M;have O:=Qf (qL (aT.1 h0 t K)).1 (h5 _ (dF K)) (aN h8);omega;rintro⟨M,h8⟩;refine⟨y.toNat,Oo,?_,Oo⟩;have O:=h6 y.toNat (cJ.2 Oo);unfold zr at O;have⟨e,he,V⟩:=List.any_eq_true.1 O;obtain⟨t,K,rfl⟩:=cC.1 he;unfold qp;exact List.any_eq_true.2 ⟨t,K,V⟩
def qM(b p:LI):LI:=b.map λv=>p.getD v.toNat 0
def rdR(k:Int)(tl:List TbV)(b:LI):LL:=srt ((qO tl (upR k.toNat)).map (qM b))
def rdT(k:Int)(tl:List TbV)(b:LI):TbV:=⟨b,rdR k tl b,zJ (rdR k tl b).length⟩
end
theorem QC(h:Bl A X){o}:Bl A (X.alloc o):=h.alloc h.size o
def ISSn(w:World)(v:Value)(ls:LL):Prop:=∃a cap,v=.slice a ls.length cap/\(ls.length=0\/∃b o,a=some (az b o)/\∀j,j<ls.length->∃ad c,w.cell? (az b (o+j))=some (.slice (some ad) (ls.getD j []).length c)/\IS w (.slice (some ad) (ls.getD j []).length c) (ls.getD j []))
theorem ISSn.iss(h:ISSn w v ls):ISS w v ls:=by
 have⟨a,cap,e,I⟩:=h;refine⟨a,cap,e,?_⟩;rcases I with I|⟨b,o,K,I⟩;exact .inl I;refine .inr ⟨b,o,K,λj M=>?_⟩;have⟨ad,c,O,V⟩:=I j M;exact⟨_,O,V⟩
theorem RQ.issn{us}(h:RQ W B v us ls)(hp:∀i,i<ls.length->0<(ls.getD i []).length):ISSn W v ls:=by
 obtain⟨a,cap,e,-⟩:=h.rs.sl;refine⟨a,cap,e,?_⟩;by_cases h0:ls.length=0;exact .inl h0;obtain⟨g,O,I,-,-⟩:=h.get (i:=0) Oo;rw[e]at I;simp only[vI]at I;refine .inr ⟨g,0,I.1,λj K=>?_⟩;obtain⟨g2,V,M,-,hc⟩:=h.get K;rw[e]at M;simp only[vI]at M;have hg:g2=g:=by have:=M.1.symm.trans I.1;simpa using this
 subst hg;have ho:=h.each j K;obtain⟨g3,c3,e3,-⟩:=xg ho (hp j K);refine⟨az g3 0,c3,by rw[cU,hc,e3],?_⟩;have:=qN ho;rw[e3]at this;exact this
theorem qJg{M}(h:IS w (.slice (some M) n c) l):∀j u,(l.map ai)[j]?=some u->w.cell? (M.add j)=some u:=λj u I=>by
 have O:j<l.length:=by
  rcases dL j l.length with h|h;exact h;rw[gN (by simpa using h)]at I;cases I
 have⟨a',c',e,K⟩:=h;simp only[vI]at e;rcases K with h0|⟨b,o,V,K⟩;omega;have e2:=Option.some.inj (e.1.trans V);rw[e2,show(((az b o):Addr).add j)=(az b (o+j))by unfold Addr.add;split <;> simp_all,K j O,<-I,bK,gD,gE O];rfl
theorem ISds.below{ss}(h:ISds W v ss)(hb:Bl W W'):ISds W' v ss:=by
 have⟨a,cap,e,I⟩:=h;refine⟨a,cap,e,I.imp id ?_⟩;rintro⟨b,o,K,M⟩;exact⟨b,o,K,λj O=>(M j O).below hb⟩
def nxL(f:LI->LI)(L:LL)(i:Nat):LL:=(L.take i).flatMap λq=>(f q).map λv=>q++[v]
theorem qGI(hi:i<L.length):nxL f L (i+1)=nxL f L i++(f (L.getD i [])).map λv=>L.getD i []++[v]:=by
 unfold nxL;rw[tA,gE hi,dM,gD,gE hi];simp
theorem qJH:(nxL f L i).length<=(L.flatMap λq=>(f q).map λv=>q++[v]).length:=by
 have e:L.flatMap (λq=>(f q).map λv=>q++[v])=nxL f L i++(L.drop i).flatMap λq=>(f q).map λv=>q++[v]:=by
  unfold nxL;rw[<-dM,tD]
 rw[e,lA];omega
def mxL(q:LI)(xs:LI)(m:Nat):LL:=(xs.take m).map λv=>q++[v]
theorem qGJ(h:m<xs.length):mxL q xs (m+1)=mxL q xs m++[q++[xs.getD m 0]]:=by
 unfold mxL;rw[qy h,mA];rfl
theorem qHx(h:m<=xs.length):(mxL q xs m).length=m:=by
 unfold mxL;rw[lM,bZ];omega
theorem vd b p:(qM b p).length=b.length:=lM _
theorem qBP w{p}(hv:IS w vv p)(hw:∃a n c,vw=.slice a n c)(hb:IS w vb b)(hl:b.length<=1000)(a4:∀y∈b,0<=y/\y<p.length):
 Cl 43 #[.agg #[vv,vw],vb] w λe w'=>∃v,e=.returned v/\w'.ownsRow w.1.size 3 1 v b.length ((qM b p).map ai)/\Bl w w':=by
 have⟨i0,hi,c7,c8,c9⟩:=info_parts Tryz.infoInt;obtain⟨aw,nw,cw,rfl⟩:=hw;obtain⟨ar,K,rfl,a5⟩:=hv;obtain⟨ap,d1,rfl,a6⟩:=hb;have⟨M,I⟩:=Ex ((aJ w #[.slice ar p.length K,.slice aw nw cw] 82).alloc (.cells #[] 3));have a7:Hh (Bl w M):=(by rw[I];exact(aK).alloc Ss _);have a8:Hh (∀W,Below (w.1.size+1) M W->aC W w.1.size 0 (.slice ar p.length K)):=λW hW=>by
  have h1:aC M w.1.size 0 (.slice ar p.length K):=by
   rw[I];exact((aK).cell Ss).trans (by rw[eH rfl];rfl)
  exact(hW.cell (by show w.1.size<w.1.size+1;omega)).trans h1
 have a9:Hh (M.ownsRow (w.1.size+1) 3 1 (sZ (w.1.size+1) 0 0 0) 0 []):=(by
  have h1:=oM (base:=w.1.size+1) (aJ w #[.slice ar p.length K,.slice aw nw cw] 82) (#[]) 0 (e:=3) (size:=1) Ss Dd rfl;rw[I];rw[aM]at h1;exact h1)
 have old:∀{W:World},Below (w.1.size+1) M W->∀{a:Addr} {u:Value},w.cell? a=some u->W.cell? a=some u:=λ{W} hW {a u} h=>by
  have h1:=bL w _ h;exact(hW.cell Oo).trans (qF a7 h)
 have HC:Hh (∀W,Below (w.1.size+1) M W->∀j,j<b.length->∃(bb o q br oo:Nat),ap=some (az bb o)/\ar=some (az br oo)/\q<p.length/\aC W bb (o+j) (ai (q:Int))/\aC W br (oo+q) (ai (p.getD q 0))/\b.getD j 0=(q:Int)):=λW hW j hj=>by
  have⟨h0,h1⟩:=a4 _ (qz (d:=0) hj);have e:b.getD j 0=((b.getD j 0).toNat:Int):=Oo;rcases a6 with h2|⟨bb,o,rfl,h2⟩;omega;rcases a5 with h3|⟨br,oo,rfl,h3⟩;omega;refine⟨bb,o,(b.getD j 0).toNat,br,oo,rfl,rfl,Oo,?_,?_,e⟩;rw[<-e];exact old hW (h2 j hj);exact old hW (h3 _ Oo)
 have HP:Hh (∀j q,j<b.length->b.getD j 0=((q:Nat):Int)->(qM (b.take (j+1)) p).map ai=(qM (b.take j) p).map ai++[ai (p.getD q 0)]):=λj q hj e=>by
  unfold qM;rw[tA,gE hj,mA,mA];rw[gdR hj]at e;simp[e]
 have b1:Hh ((qM (b.take 0) p).map ai=[]):=rfl;have b7:Hh (qM (b.take b.length) p=qM b p):=ay (by rw[tL]);have hsz:w.1.size+1<=M.1.size:=by rw[I];simp
 have⟨n,hn⟩:=Ex b.length;have⟨nr,b8⟩:=Ex p.length;rw[<-hn]at HC HP b7 hl |-;rw[<-b8]at HC a8 I |-;clear hn b8;go_enter func43,ntmps43;go_upto_region 2 with fail;rw[<-I];clear I;go_wp2;go_loopw [5,11] (λu t wr=>∃(j:Nat) (vo:Value),j<=n/\t=ai j/\vo=u/\Hh (wr.ownsRow (w.1.size+1) 3 1 vo j ((qM (b.take j) p).map ai)/\Below (w.1.size+1) M wr)) (λ_ t _=>n-(intOf t).toNat);exact⟨0,_,nZ _,rfl,rfl,ay ⟨b1.o▸a9,eB⟩⟩;obtain⟨j,vo,hj,rfl,rfl,V⟩:=hrel;by_cases b9:j<n
 .have i1:=aV b9;have⟨bb,o,q,br,oo,ea,eb,hq,e1,e2,e3⟩:=HC _ V.2 j b9;subst ea eb;have x0:=a8 _ V.2;have d0:=ay (HP j q b9 e3);have d4:=V.2.size;generalize p.getD q 0=y at *;go_wp2_with (at_builtin;refine wpList_append_lies _ rfl _ _ 24 rfl _ 3 _ _ 1 8 underlying24 hi c7 c8 c9 rfl Dd vo _ _ rfl (V.o.1.alloc _) (az _ 0) 1 1 _ rfl rfl (qH _ _ _) (λu hu=>by simp at hu;subst hu;rfl) Dd Um Oo Sy _ rfl ?_;intro g3 cp3 w4 a3 O d2 d3);go_roundw;exact⟨j+1,_,Oo,Gg,rfl,ay ⟨d0.o▸a3,(V.2.alloc Oo _).grown O Sy (λq hq=>(V.1.lt q hq).1)⟩⟩;exact Im
 obtain rfl:j=n:=Oo;go_wp2;go_ret;have h2:=V.1;rw[b7.o]at h2;exact⟨_,rfl,qE h2 Oo,a7.o.trans (V.2.mono Oo)⟩
end
section
variable {l ws:LP}{g j lo n q I s:Nat}{v0 v1 v2 v3 v u0 u1 v4 v5 v' u2 u3:Value}{W W' w w':World}{R R':Nat->Value->Value->Prop}{bs:LL}{ps hs:LI}
structure HalfP(W:World)(g n j:Nat)(R:Nat->Value->Value->Prop):Prop where
 any:∀q,q<n*2->∃u,W.cell? (az g q)=some u
 free:∀q,q<n*2->W.frozen? (az g q)=false
 pair:∀i,i<j->∃u0 u1,W.cell? (az g (i*2))=some u0/\W.cell? (az g (i*2+1))=some u1/\R i u0 u1
theorem HalfP.below(h:HalfP W g n j R)(I:g<W.1.size)(hb:Bl W W')(K:∀i u0 u1,i<j->R i u0 u1->R' i u0 u1):HalfP W' g n j R':=
 ⟨λq hq=>by obtain⟨u,M⟩:=h.any q hq;exact⟨u,(hb.cell I).trans M⟩,λq hq=>(hb.frozen I).trans (h.free q hq),λi hi=>by
  have⟨u0,u1,O,V,h2⟩:=h.pair i hi;exact⟨u0,u1,(hb.cell I).trans O,(hb.cell I).trans V,K i _ _ hi h2⟩⟩
theorem qBj(h:∃u,W.cell? (az g q)=some u):∃u,(W.setCell (az g I) v).cell? (az g q)=some u:=by
 have⟨u,K⟩:=h;by_cases e:q=I;subst e;exact⟨v,eJ K⟩;exact⟨u,(eE (by intro M;simp only[Addr.mk.injEq]at M;omega)).trans K⟩
theorem HalfP.step(h:HalfP W g n j R)(hj:j<n)(I:∀i a b,i<j->R i a b->R' i a b)(K:R' j u0 u1):
 HalfP ((W.setCell (az g (j*2)) u0).setCell (az g (j*2+1)) u1) g n (j+1) R' where
 any q hq:=qBj (qBj (h.any q hq))
 free q hq:=by rw[fS,fS];exact h.free q hq
 pair i hi:=by
  have ne:∀(X:World) (a b:Nat) (v:Value),a≠b->(sC X g b v).cell? (az g a)=X.cell? (az g a):=λX a b v hab=>eE (by intro M;simp only[Addr.mk.injEq]at M;omega);by_cases e:i=j
  .subst e;have⟨x0,c0⟩:=h.any (i*2) Oo;have⟨x1,c1⟩:=h.any (i*2+1) Oo;refine⟨u0,u1,?_,?_,K⟩;rw[ne _ _ _ _ Oo];exact eJ c0;exact eJ ((ne _ _ _ _ Oo).trans c1)
  have⟨a,b,O,V,h2⟩:=h.pair i Oo;exact⟨a,b,by rw[ne _ _ _ _ Oo,ne _ _ _ _ Oo];exact O,by rw[ne _ _ _ _ Oo,ne _ _ _ _ Oo];exact V,I i a b Oo h2⟩
structure IPl(w:World)(v0 v1 v2 v3:Value)(bs:LL)(ps hs:LI)(ws:LP):Prop where
 b:ISS w v0 bs
 p:IS w v1 ps
 h:IS w v2 hs
 d:IR w v3 ws
theorem IPl.below(h:IPl w v0 v1 v2 v3 bs ps hs ws)(hb:Bl w w'):IPl w' v0 v1 v2 v3 bs ps hs ws:=
 ⟨h.b.below hb,h.p.below hb,h.h.below hb,h.d.below hb⟩
def IRb(w:World)(g:Nat)(l:LP):Prop:=(∀j,j<l.length->w.cell? (az g (j*2))=some (ai (l.getD j (0,0)).1)/\w.cell? (az g (j*2+1))=some (ai (l.getD j (0,0)).2))/\∀q,q<l.length*2->w.frozen? (az g q)=false
theorem IRb.move(h:IRb w g l)(hb:w'.1[g]?=w.1[g]?):IRb w' g l:=
 ⟨λj I=>⟨(bF hb).trans (h.1 j I).1,(bF hb).trans (h.1 j I).2⟩,λq hq=>by have:=h.2 q hq;unfold World.frozen? at this |-;rw[hb];exact this⟩
theorem IRb.ir(h:IRb w g l):IR w (sZ g 0 l.length l.length) l:=
 ⟨_,_,rfl,.inr ⟨g,0,rfl,λj I=>by rw[cU];exact h.1 j I⟩⟩
theorem IRb.sh(h:IRb w g l)(K:lo<=g)(I:g<w.1.size):ShI lo w.1.size w g (l.length*2):=⟨K,I,I,λj M=>by
 rcases Nat.mod_two_eq_zero_or_one j with e|e;have:=(h.1 (j / 2) Oo).1;rw[show j / 2*2=j by omega]at this;exact⟨_,this⟩;have:=(h.1 (j / 2) Oo).2;rw[show j / 2*2+1=j by omega]at this;exact⟨_,this⟩,h.2⟩
theorem Half.shss{ls f}(h:Half w g ls.length ls.length ls f)(K:lo<=g):ShSS lo w.1.size w g ls.length (λj=>(ls.getD j []).length):=λj I=>by
 have e:=h.cell j I;rw[fE I]at e;have M:=h.gt j I;exact⟨f j,e,(h.own j I).sh Oo (h.own j I).lt⟩
theorem OwnI.shE{l}(h:OwnI W g l)(I:lo<=g):ShI lo W.1.size W g l.length:=h.sh I h.lt
theorem qA4(h:IR w v l)(hl:l.length<=1048576):
 aF 29 #[v] w (sZ w.1.size 0 l.length l.length) λw'=>IRb w' w.1.size l/\w.1.size<w'.1.size/\Bl w w':=by
 have⟨i0,hi,b9,c7,c8⟩:=aX Tryz.infoRatS;obtain⟨a,cap,rfl,hc⟩:=h;have⟨n,hn⟩:=Ex l.length;change Hh _ at hc hn;rw[<-hn]at hc hl |-;go_enter func29,ntmps29;go_wp2_with (at_make;refine wpList_make_full _ rfl _ _ 35 rfl _ 36 _ _ 2 underlying35 hi b9 c7 _ _ _ _ n rfl rfl rfl rfl ?b2 ?b3 eA ?_)
 case b2=>rw[c8];omega
 case b3=>unfold maxLen;omega
 intro w0 I M;have a4:w.1.size<w0.1.size:=(I.lt _ rfl).2;have a9:HalfP w0 w.1.size n 0 (λi a b=>a=ai (l.getD i (0,0)).1/\b=ai (l.getD i (0,0)).2):=⟨λq hq=>by
  rw[I.cellAt q hq];exact⟨_,gE (by rw[I.1];exact hq)⟩,λq _=>I.frozenAt q,λi hi=>Oo⟩
 have b1:=ay (And.intro (eB.grown M eA (λj hj=>by cases hj)) (And.intro a4 a9));clear I M a4 a9;go_wp2;go_loopw [4] (λt wr=>∃j:Nat,j<=n/\t=ai j/\Hh (Bl w wr/\w.1.size<wr.1.size/\HalfP wr w.1.size n j (λi a b=>a=ai (l.getD i (0,0)).1/\b=ai (l.getD i (0,0)).2))) (λt _=>n-(intOf t).toNat);exact⟨0,eC,rfl,b1⟩;clear b1;obtain⟨j,hj,rfl,hH⟩:=hrel;have⟨O,a5,V⟩:=hH.o;by_cases b7:j<n
 .have i1:=aV b7;rcases hc.o with h0|⟨b,o,rfl,hrel⟩;omega;have⟨a6,a7⟩:=hrel j b7;have c0:=(O.cell (bL w _ a6)).trans a6;have c1:=(O.cell (bL w _ a7)).trans a7;have c9:=ay O;have b8:=ay V;have a3:Hh (∀W,Bl wr W->HalfP ((sC W w.1.size (j*2) (ai (l.getD j (0,0)).1)).setCell (az w.1.size (j*2+1)) (ai (l.getD j (0,0)).2)) w.1.size n (j+1) (λi a b=>a=ai (l.getD i (0,0)).1/\b=ai (l.getD i (0,0)).2)):=λW hb=>
   (b8.o.below a5 hb (λ_ _ _ _ h=>h)).step b7 (λ_ _ _ _ h=>h) ⟨rfl,rfl⟩
  clear hH O V hrel a6 a7;have⟨s,hs⟩:=Ex ((l.getD j (0,0)).1);have⟨d,hd⟩:=Ex ((l.getD j (0,0)).2);rw[<-hs]at c0 a3;rw[<-hd]at c1 a3;clear hs hd;go_wp2_with fail;apply (Xx s d wr).mn;intro w2 hb;have K:=b8.o.below a5 hb (λ_ _ _ _ h=>h);have⟨u0,d0⟩:=K.any (j*2) Oo;have⟨u1,d1⟩:=K.any (j*2+1) Oo;have f0:=K.free (j*2) Oo;have f1:=K.free (j*2+1) Oo;have HF:=ay (a3 _ hb);have d2:=ay (bt c9 hb);have hs2:=hb.size;clear K hb a3 c0 c1;go_wp2;go_roundw;exact⟨j+1,Oo,Gg,ay ⟨(d2.o.setCell eA _).setCell eA _,by simp[World.setCell];omega,HF⟩⟩;exact Im
 obtain rfl:j=n:=Oo;have i1:=aY j;have HX:=ay (And.intro V (And.intro a5 O));clear hH O V;go_wp2;go_ret;refine⟨rfl,⟨λi hi=>?_,λq hq=>HX.o.1.free q (by rw[hn.o];exact hq)⟩,HX.o.2.1,HX.o.2.2⟩;obtain⟨u0,u1,h0,h1,rfl,rfl⟩:=HX.1.pair i (by rw[hn.o];exact hi);exact⟨h0,h1⟩
theorem qA5 w(a:OA)cap left(K:0<=left)(M:left<=1048576)(O:n<=9223372036854775807):
 aF 23 #[.slice a n cap,ai left] w (ai (if left<n then -1 else left-n)) λw'=>w'=w:=by
 by_cases h:left<n
 .rw[fE h];have I:left-(n:Int)<0:=Oo;go_enter func23,ntmps23;go_wp2;go_ret;exact⟨rfl,rfl⟩
 rw[fF h];have I:¬(left-(n:Int)<0):=Oo;go_enter func23,ntmps23;go_wp2;go_ret;exact⟨rfl,rfl⟩
structure B6(s:Nat)(v0 v1 v2 v3 v4 v5:Value)(W:World):Prop where
 c0:W.cell? (az s 0)=some v0
 c1:W.cell? (az s 1)=some v1
 c2:W.cell? (az s 2)=some v2
 c3:W.cell? (az s 3)=some v3
 c4:W.cell? (az s 4)=some v4
 c5:W.cell? (az s 5)=some v5
theorem B6.step(h:B6 s v0 v1 v2 v3 v4 v5 W)(hb:Bl W W'):B6 s v0 v1 v2 v3 v4 v5 W':=
 ⟨qF hb h.c0,qF hb h.c1,qF hb h.c2,qF hb h.c3,qF hb h.c4,qF hb h.c5⟩
theorem B6.start(w:World)v0 v1 v2 v3 v4 v5 t:B6 w.1.size v0 v1 v2 v3 v4 v5 (w.alloc (.cells #[v0,v1,v2,v3,v4,v5] t)):=
 ⟨by rw[eH rfl];rfl,by rw[eH rfl];rfl,by rw[eH rfl];rfl,by rw[eH rfl];rfl,by rw[eH rfl];rfl,by rw[eH rfl];rfl⟩
theorem qA6{ls}(h:ISS w v ls)(I:ISS w v' ls)(hl:qS ls):
 aG 11 #[v,v'] w (.bool true):=
 (jZ w v h I hl).mono (by
  rintro e w' ⟨rfl,m,rfl⟩;exact⟨rfl,below_drewN eB _⟩)
structure W6(s:Nat)v0 v1 v2 v3 v4 v5 W:Prop extends B6 s v0 v1 v2 v3 v4 v5 W where
 f0:W.frozen? (az s 0)=false
 f1:W.frozen? (az s 1)=false
 f2:W.frozen? (az s 2)=false
 f3:W.frozen? (az s 3)=false
 f4:W.frozen? (az s 4)=false
 f5:W.frozen? (az s 5)=false
section
variable {s:Nat} {v0 v1 v2 v3 v4 v5:Value} {W W':World}
theorem W6.move(h:W6 s v0 v1 v2 v3 v4 v5 W)(hb:W'.1[s]?=W.1[s]?):W6 s v0 v1 v2 v3 v4 v5 W' :=by
 obtain⟨⟨⟩⟩:=h;constructor;constructor;all_goals first|exact(bF (w:=W) hb).trans ‹_›|exact(dA (w:=W) hb).trans ‹_›
theorem W6.lt(h:W6 s v0 v1 v2 v3 v4 v5 W):s<W.1.size:=bL W _ h.c0
theorem W6.below(h:W6 s v0 v1 v2 v3 v4 v5 W)(hb:Bl W W'):W6 s v0 v1 v2 v3 v4 v5 W':=h.move (hb.block _ h.lt)
theorem W6.new(w:World)v0 v1 v2 v3 v4 v5 t:W6 w.1.size v0 v1 v2 v3 v4 v5 (w.alloc (.cells #[v0,v1,v2,v3,v4,v5] t)):=
 { B6.start w _ _ _ _ _ _ t with f0:=eM rfl,f1:=eM rfl,f2:=eM rfl,f3:=eM rfl,f4:=eM rfl,f5:=eM rfl }
theorem W6.set0(h:W6 s v0 v1 v2 v3 v4 v5 W)u:W6 s u v1 v2 v3 v4 v5 (W.setCell (az s 0) u) :=by
 obtain⟨⟨⟩⟩:=h;exact Wv
theorem W6.set1(h:W6 s v0 v1 v2 v3 v4 v5 W)u:W6 s v0 u v2 v3 v4 v5 (W.setCell (az s 1) u) :=by
 obtain⟨⟨⟩⟩:=h;exact Wv
theorem W6.set2(h:W6 s v0 v1 v2 v3 v4 v5 W)u:W6 s v0 v1 u v3 v4 v5 (W.setCell (az s 2) u) :=by
 obtain⟨⟨⟩⟩:=h;exact Wv
theorem W6.set3(h:W6 s v0 v1 v2 v3 v4 v5 W)u:W6 s v0 v1 v2 u v4 v5 (W.setCell (az s 3) u) :=by
 obtain⟨⟨⟩⟩:=h;exact Wv
theorem W6.set4(h:W6 s v0 v1 v2 v3 v4 v5 W)u:W6 s v0 v1 v2 v3 u v5 (W.setCell (az s 4) u) :=by
 obtain⟨⟨⟩⟩:=h;exact Wv
theorem W6.set5(h:W6 s v0 v1 v2 v3 v4 v5 W)u:W6 s v0 v1 v2 v3 v4 u (W.setCell (az s 5) u) :=by
 obtain⟨⟨⟩⟩:=h;exact Wv
theorem W6.far{c o u}(h:W6 s v0 v1 v2 v3 v4 v5 W)(I:s≠c):W6 s v0 v1 v2 v3 v4 v5 (W.setCell (az c o) u):=h.move (eG I)
end
def szP(bs:LL)(ps hs:LI)(ws:LP)(left:Int):Int:=if left<tot bs bs.length+ps.length+hs.length+ws.length then -1 else left-(tot bs bs.length+ps.length+hs.length+ws.length)
theorem qA7 w x y left(h:IPl w v0 v1 v2 v3 bs ps hs ws)(hf:Fits bs)(hp:ps.length<=9223372036854775807)(hh:hs.length<=9223372036854775807)(hw:ws.length<=9223372036854775807)(h1:0<=left)(h2:left<=1048576):
 aG 5 #[.agg #[v0,v1,v2,v3,ai x,ai y],ai left] w (ai (szP bs ps hs ws left)):=by
 have I:Hh (Bl w (w.alloc (.cells #[v0,v1,v2,v3,ai x,ai y] 29))):=aK;have V:=ay (B6.start w v0 v1 v2 v3 (ai x) (ai y) 29);have HI:=ay h;have HF:=ay hf;obtain⟨a0,k0,rfl,-⟩:=h.b;obtain⟨a1,k1,rfl,-⟩:=h.p;obtain⟨a2,k2,rfl,-⟩:=h.h;obtain⟨a3,k3,rfl,-⟩:=h.d;have⟨res,K⟩:=Ex (szP bs ps hs ws left);rw[<-K];have HR:Hh (res=if left<tot bs bs.length+ps.length+hs.length+ws.length then -1 else left-(tot bs bs.length+ps.length+hs.length+ws.length)):=K;clear h hf K;have b9:(0:Int)<=tot bs bs.length:=Oo;have⟨W,hW⟩:=Ex (w.alloc (.cells #[.slice a0 bs.length k0,.slice a1 ps.length k1,.slice a2 hs.length k2,.slice a3 ws.length k3,ai x,ai y] 29));rw[<-hW]at I V;have x0:=V.o.c0;go_enter func5,ntmps5;go_upto_region 1 with fail;rw[<-hW];clear hW;go_wp2_with fail;apply (ay (ZK W _ (HI.o.b.below I) HF h1 h2)).o.mono;rintro e w1 ⟨rfl,hw1⟩;subst w1;have M:Hh (Bl W W):=ay eB;have a4:=ay V.o;rw[show qAZ bs left=(if left<tot bs bs.length then -1 else left-tot bs bs.length) from rfl];clear x0;by_cases c1:left<tot bs bs.length
 .obtain rfl:res=-1:=by rw[HR.o,fE Oo]
  rw[fE c1];go_wp2;go_ret;exact⟨rfl,bt I M⟩
 rw[fF c1];have⟨l1,a5⟩:=Ex (left-tot bs bs.length);rw[<-a5];have g1:¬(l1<0):=Oo;have u1:l1<=1048576:=Oo;have O:=ay a5;clear a5;have x1:=a4.o.c1;go_wp2_with fail;apply (ay (ym W a1 _ k1 l1 Oo Oo hp)).o.mn;intro w2 b1;subst w2;by_cases c2:l1<ps.length
 .obtain rfl:res=-1:=by have e1:=O.o;rw[HR.o,fE Oo]
  rw[fE c2];go_wp2;go_ret;exact⟨rfl,bt I M⟩
 rw[fF c2];have⟨l2,a6⟩:=Ex (l1-ps.length);rw[<-a6];have g2:¬(l2<0):=Oo;have u2:l2<=1048576:=Oo;have a7:=ay a6;clear a6;have x2:=a4.o.c2;go_wp2_with fail;apply (ay (ym W a2 _ k2 l2 Oo Oo hh)).o.mn;intro w2 b1;subst w2;by_cases c3:l2<hs.length
 .obtain rfl:res=-1:=by have e1:=O.o;have e2:=a7.o;rw[HR.o,fE Oo]
  rw[fE c3];go_wp2;go_ret;exact⟨rfl,bt I M⟩
 rw[fF c3];have⟨l3,a8⟩:=Ex (l2-hs.length);rw[<-a8];have g3:¬(l3<0):=Oo;have u3:l3<=1048576:=Oo;have b7:=ay a8;clear a8;have x3:=a4.o.c3;go_wp2_with fail;apply (ay (qA5 W a3 k3 l3 Oo Oo hw)).o.mn;intro w2 b1;subst w2;by_cases c4:l3<ws.length
 .obtain rfl:res=-1:=by have e1:=O.o;have e2:=a7.o;have e3:=b7.o;rw[HR.o,fE Oo]
  rw[fE c4];go_wp2;go_ret;exact⟨rfl,bt I M⟩
 rw[fF c4];have⟨l4,a9⟩:=Ex (l3-ws.length);rw[<-a9];have g4:¬(l4<0):=Oo;have u4:l4<=1048576:=Oo;have b8:=ay a9;clear a9;obtain rfl:l4=res:=by have e1:=O.o;have e2:=a7.o;have e3:=b7.o;have e4:=b8.o;rw[HR.o,fF Oo];omega
 go_wp2;go_ret;exact⟨rfl,bt I M⟩
theorem qCH w x y(h:IPl w v0 v1 v2 v3 bs ps hs ws)(h':IPl w u0 u1 u2 u3 bs ps hs ws)(hb:qS bs)(hp:ps.length<=1099511627776)(hh:hs.length<=1099511627776)(hw:ws.length<=1099511627776):
 aG 13 #[.agg #[v0,v1,v2,v3,ai x,ai y],.agg #[u0,u1,u2,u3,ai x,ai y]] w (.bool true):=by
 have b1:Bl w (w.alloc (.cells #[v0,v1,v2,v3,ai x,ai y] 38)):=aK;have HI:=ay h;have HJ:=ay h';have HS:=ay hb;obtain⟨a0,k0,rfl,-⟩:=h.b;obtain⟨a1,k1,rfl,-⟩:=h.p;obtain⟨a2,k2,rfl,-⟩:=h.h;obtain⟨a3,k3,rfl,-⟩:=h.d;obtain⟨d0,m0,rfl,-⟩:=h'.b;obtain⟨d1,m1,rfl,-⟩:=h'.p;obtain⟨d2,m2,rfl,-⟩:=h'.h;obtain⟨d3,m3,rfl,-⟩:=h'.d;have b7:=B6.start w (.slice a0 bs.length k0) (.slice a1 ps.length k1) (.slice a2 hs.length k2) (.slice a3 ws.length k3) (ai x) (ai y) 38;obtain⟨W1,a7⟩:=Ex (w.alloc (.cells #[.slice a0 bs.length k0,.slice a1 ps.length k1,.slice a2 hs.length k2,.slice a3 ws.length k3,ai x,ai y] 38));have s1:W1.1.size=w.1.size+1:=by rw[a7];simp
 have a8:=B6.start W1 (.slice d0 bs.length m0) (.slice d1 ps.length m1) (.slice d2 hs.length m2) (.slice d3 ws.length m3) (ai x) (ai y) 38;have a9:Bl W1 (W1.alloc (.cells #[.slice d0 bs.length m0,.slice d1 ps.length m1,.slice d2 hs.length m2,.slice d3 ws.length m3,ai x,ai y] 38)):=aK;rw[<-a7]at b7 b1;obtain⟨W2,b8⟩:=Ex (W1.alloc (.cells #[.slice d0 bs.length m0,.slice d1 ps.length m1,.slice d2 hs.length m2,.slice d3 ws.length m3,ai x,ai y] 38));rw[<-b8]at a8 a9;rw[s1]at a8;have K:=ay (bt b1 a9);have M:=ay (b7.step a9);have O:=ay a8;have HW:Hh (W2=(aJ w #[.slice a0 bs.length k0,.slice a1 ps.length k1,.slice a2 hs.length k2,.slice a3 ws.length k3,ai x,ai y] 38).alloc (.cells #[.slice d0 bs.length m0,.slice d1 ps.length m1,.slice d2 hs.length m2,.slice d3 ws.length m3,ai x,ai y] 38)):=ay (by rw[b8,a7]);clear b7 a8 b1 a9 h h' hb a7 b8 s1;have x0:=M.o.c0;have z0:=O.o.c0;go_enter func13,ntmps13;go_upto_region 1 with fail;rw[<-HW.o];clear HW;go_wp2_with fail;apply (ay (qA6 (HI.o.b.below K) (HJ.o.b.below K) HS)).o.mn;intro w1 I;have V:=ay I;clear I x0 z0;have x1:=(M.o.step V).c1;have z1:=(O.o.step V).c1;have K1:=ay (QN _ (HI.o.p.below (bt K V)) (HJ.o.p.below (bt K V)) hp);go_wp2_with fail;apply K1.o.mn;intro w2 I;have a4:=ay (bt V I);clear I K1 x1 z1;have x1:=(M.o.step a4).c2;have z1:=(O.o.step a4).c2;have K1:=ay (QN _ (HI.o.h.below (bt K a4)) (HJ.o.h.below (bt K a4)) hh);go_wp2_with fail;apply K1.o.mn;intro w3 I;have a5:=ay (bt a4 I);clear I K1 x1 z1;have x1:=(M.o.step a5).c3;have z1:=(O.o.step a5).c3;go_wp2_with fail;apply (ay (qCM (HI.o.d.below (bt K a5)) (HJ.o.d.below (bt K a5)) hw)).o.mn;intro w4 I;have a6:=ay (bt a5 I);clear I x1 z1;have x1:=(M.o.step a6).c4;have z1:=(O.o.step a6).c4;have x2:=(M.o.step a6).c5;have z2:=(O.o.step a6).c5;go_wp2_with fail;apply (VQ).mn;intro w5 I;go_wp2;go_ret;exact⟨rfl,bt K (bt a6 I)⟩
theorem Jq w x y(h:IPl w v0 v1 v2 v3 bs ps hs ws)(hb:qS bs)(hp:ps.length<=1099511627776)(hh:hs.length<=1099511627776)(hw:ws.length<=1048576):
 Cl 8 #[.agg #[v0,v1,v2,v3,ai x,ai y]] w λe w'=>∃g0 g1 g2 g3,e=.returned (.agg #[sZ g0 0 bs.length bs.length,sZ g1 0 ps.length ps.length,sZ g2 0 hs.length hs.length,sZ g3 0 ws.length ws.length,ai x,ai y])/\
  IPl w' (sZ g0 0 bs.length bs.length) (sZ g1 0 ps.length ps.length) (sZ g2 0 hs.length hs.length) (sZ g3 0 ws.length ws.length) bs ps hs ws/\Bl w w'/\ShSS w.1.size w'.1.size w' g0 bs.length (λj=>(bs.getD j []).length)/\ShI w.1.size w'.1.size w' g1 ps.length/\ShI w.1.size w'.1.size w' g2 hs.length/\ShI w.1.size w'.1.size w' g3 (ws.length*2):=by
 have HI:=ay h;have HS:=ay hb;obtain⟨a0,k0,rfl,-⟩:=h.b;obtain⟨a1,k1,rfl,-⟩:=h.p;obtain⟨a2,k2,rfl,-⟩:=h.h;obtain⟨a3,k3,rfl,-⟩:=h.d;have⟨W1,a9⟩:=Ex (w.alloc (.cells #[.slice a0 bs.length k0,.slice a1 ps.length k1,.slice a2 hs.length k2,.slice a3 ws.length k3,ai x,ai y] 29));have⟨W2,b7⟩:=Ex (W1.alloc (.cells #[sn,sn,sn,sn,ai 0,ai 0] 38));have⟨W3,c7⟩:=Ex (W2.alloc (.cells #[sn,sn,sn,sn,ai 0,ai 0] 38))
 have b2:Bl W1 W2:=by rw[b7];exact(bJ _ _).alloc (nR _) _
 have b3:Bl W2 W3:=by rw[c7];exact(bJ _ _).alloc (nR _) _
 have s1:W1.1.size=w.1.size+1:=by rw[a9];simp
 have s2:W2.1.size=w.1.size+1+1:=by rw[b7,a9];simp
 have s3:W3.1.size=w.1.size+1+1+1:=by rw[c7,b7,a9];simp
 have A:=W6.new w (.slice a0 bs.length k0) (.slice a1 ps.length k1) (.slice a2 hs.length k2) (.slice a3 ws.length k3) (ai x) (ai y) 29;have R:=W6.new W1 sn sn sn sn (ai 0) (ai 0) 38;have O:=W6.new W2 sn sn sn sn (ai 0) (ai 0) 38;rw[<-a9]at A;rw[<-b7,s1]at R;rw[<-c7,s2]at O;have HA:=ay (A.below (bt b2 b3));have HR:=ay (R.below b3);have HO:=ay O;have HB:=ay (bt (by rw[a9];exact(bJ _ _).alloc (nR _) _) (bt b2 b3));have HW:Hh (W3=((w.alloc (.cells #[.slice a0 bs.length k0,.slice a1 ps.length k1,.slice a2 hs.length k2,.slice a3 ws.length k3,ai x,ai y] 29)).alloc (.cells #[sn,sn,sn,sn,ai 0,ai 0] 38)).alloc (.cells #[sn,sn,sn,sn,ai 0,ai 0] 38)):=ay (by rw[c7,b7,a9]);clear A R O b2 b3 s1 s2 a9 b7 c7 h hb;have K0:=ay (ZL (HI.o.b.below HB) HS);have x0:=HA.o.c0;go_enter func8,ntmps8;go_upto_region 2 with fail;rw[<-HW.o];clear HW;go_wp2_with fail;apply K0.o.mono;rintro e w1 ⟨rfl,⟨fH,hH⟩,e4,I⟩;rw[s3]at e4 hH;have z0:=(HO.o.below I).c0;have z1:=(HO.o.below I).f0;have d1:=I.size;have⟨G0,d5⟩:=Ex (w.1.size+1+1+1);rw[s3,<-d5];rw[s3]at d1;rw[<-d5]at hH e4 d1;have i8:w.1.size+1+1<G0:=Oo;clear d5 s3;have⟨V1,a8⟩:=Ex (w1.setCell (az (w.1.size+1+1) 0) (sZ G0 0 bs.length bs.length));have c8:Hh (W6 (w.1.size+1+1) (sZ G0 0 bs.length bs.length) sn sn sn (ai 0) (ai 0) V1):=(by rw[a8];exact(HO.o.below I).set0 _);have e5:Hh (W6 (w.1.size+1) sn sn sn sn (ai 0) (ai 0) V1):=(by rw[a8];exact(HR.o.below I).far Oo);have d6:Hh (W6 w.1.size (.slice a0 bs.length k0) (.slice a1 ps.length k1) (.slice a2 hs.length k2) (.slice a3 ws.length k3) (ai x) (ai y) V1):=(by rw[a8];exact(HA.o.below I).far Oo);have d7:Hh (Bl w V1):=(by rw[a8];exact(bt HB I).setCell (by show w.1.size<=w.1.size+1+1;omega) _);have e6:Hh (Half V1 G0 bs.length bs.length bs fH):=(by rw[a8];exact hH.set Oo);have i9:G0<V1.1.size:=by rw[a8];simp[World.setCell];omega
 clear I hH K0 x0 HO HR HA HB;go_upto_region 3 with fail;rw[<-a8];clear a8 z0 z1;have x0:=d6.o.c1;have K0:=ay (yH _ _ (HI.o.p.below d7) hp);go_wp2_with fail;apply K0.o.mono;rintro e w2 ⟨rfl,K,I⟩;have z0:=(c8.o.below I).c1;have z1:=(c8.o.below I).f1;have e7:=I.size;have e8:=K.lt;obtain⟨G1,d2⟩:=Ex V1.1.size;have j0:G0<G1:=Oo;rw[<-d2]at K e7 e8 |-;clear d2;obtain⟨V2,a7⟩:=Ex (w2.setCell (az (w.1.size+1+1) 1) (sZ G1 0 ps.length ps.length));have i5:G1<V2.1.size:=by rw[a7];simp[World.setCell];omega
 have c9:Hh (W6 (w.1.size+1+1) (sZ G0 0 bs.length bs.length) (sZ G1 0 ps.length ps.length) sn sn (ai 0) (ai 0) V2):=(by rw[a7];exact(c8.o.below I).set1 _);have e9:Hh (W6 (w.1.size+1) sn sn sn sn (ai 0) (ai 0) V2):=(by rw[a7];exact(e5.o.below I).far Oo);have d8:Hh (W6 w.1.size (.slice a0 bs.length k0) (.slice a1 ps.length k1) (.slice a2 hs.length k2) (.slice a3 ws.length k3) (ai x) (ai y) V2):=(by rw[a7];exact(d6.o.below I).far Oo);have d9:Hh (Bl w V2):=(by rw[a7];exact(bt d7 I).setCell (by show w.1.size<=w.1.size+1+1;omega) _);have f7:Hh (Half V2 G0 bs.length bs.length bs fH):=(by rw[a7];exact(e6.o.below Oo I).set Oo);have f8:Hh (OwnI V2 G1 ps):=(by rw[a7];exact K.set Oo);clear I K K0 x0 c8 e5 d6 d7 e6;go_upto_region 4 with fail;rw[<-a7];clear a7 z0 z1;have x0:=d8.o.c2;have K0:=ay (yH _ _ (HI.o.h.below d9) hh);go_wp2_with fail;apply K0.o.mono;rintro e w3 ⟨rfl,K,I⟩;have z0:=(c9.o.below I).c2;have z1:=(c9.o.below I).f2;have f9:=I.size;have g4:=K.lt;obtain⟨G2,d3⟩:=Ex V2.1.size;have j1:G1<G2:=Oo;rw[<-d3]at K f9 g4 |-;clear d3;obtain⟨V3,a5⟩:=Ex (w3.setCell (az (w.1.size+1+1) 2) (sZ G2 0 hs.length hs.length));have i6:G2<V3.1.size:=by rw[a5];simp[World.setCell];omega
 have d0:Hh (W6 (w.1.size+1+1) (sZ G0 0 bs.length bs.length) (sZ G1 0 ps.length ps.length) (sZ G2 0 hs.length hs.length) sn (ai 0) (ai 0) V3):=(by rw[a5];exact(c9.o.below I).set2 _);have g5:Hh (W6 (w.1.size+1) sn sn sn sn (ai 0) (ai 0) V3):=(by rw[a5];exact(e9.o.below I).far Oo);have e0:Hh (W6 w.1.size (.slice a0 bs.length k0) (.slice a1 ps.length k1) (.slice a2 hs.length k2) (.slice a3 ws.length k3) (ai x) (ai y) V3):=(by rw[a5];exact(d8.o.below I).far Oo);have e1:Hh (Bl w V3):=(by rw[a5];exact(bt d9 I).setCell (by show w.1.size<=w.1.size+1+1;omega) _);have g6:Hh (Half V3 G0 bs.length bs.length bs fH):=(by rw[a5];exact(f7.o.below Oo I).set Oo);have g7:Hh (OwnI V3 G1 ps):=(by rw[a5];exact(f8.o.below I).set Oo);have g8:Hh (OwnI V3 G2 hs):=(by rw[a5];exact K.set Oo);clear I K K0 x0 c9 e9 d8 d9 f7 f8;go_upto_region 5 with fail;rw[<-a5];clear a5 z0 z1;have x0:=e0.o.c3;go_wp2_with fail;apply (ay (qA4 (HI.o.d.below e1) hw)).o.mono;rintro e w4 ⟨rfl,K,g9,I⟩;have z0:=(d0.o.below I).c3;have z1:=(d0.o.below I).f3;have h0:=I.size;obtain⟨G3,d4⟩:=Ex V3.1.size;have j2:G2<G3:=Oo;rw[<-d4]at K h0 g9 |-;clear d4;obtain⟨V4,a4⟩:=Ex (w4.setCell (az (w.1.size+1+1) 3) (sZ G3 0 ws.length ws.length));have i7:G3<V4.1.size:=by rw[a4];simp[World.setCell];omega
 have b8:Hh (W6 (w.1.size+1+1) (sZ G0 0 bs.length bs.length) (sZ G1 0 ps.length ps.length) (sZ G2 0 hs.length hs.length) (sZ G3 0 ws.length ws.length) (ai 0) (ai 0) V4):=(by rw[a4];exact(d0.o.below I).set3 _);have h1:Hh (W6 (w.1.size+1) sn sn sn sn (ai 0) (ai 0) V4):=(by rw[a4];exact(g5.o.below I).far Oo);have e2:Hh (W6 w.1.size (.slice a0 bs.length k0) (.slice a1 ps.length k1) (.slice a2 hs.length k2) (.slice a3 ws.length k3) (ai x) (ai y) V4):=(by rw[a4];exact(e0.o.below I).far Oo);have h2:Hh (Bl w V4):=(by rw[a4];exact(bt e1 I).setCell (by show w.1.size<=w.1.size+1+1;omega) _);have h3:Hh (Half V4 G0 bs.length bs.length bs fH):=(by rw[a4];exact(g6.o.below Oo I).set Oo);have h4:Hh (OwnI V4 G1 ps):=(by rw[a4];exact(g7.o.below I).set Oo);have h5:Hh (OwnI V4 G2 hs):=(by rw[a4];exact(g8.o.below I).set Oo);have h6:Hh (IRb V4 G3 ws):=(by rw[a4];exact K.move (bD _ _ _ _ (by show G3≠w.1.size+1+1;omega)));clear I K x0 d0 g5 e0 e1 g6 g7 g8;go_upto_region 6 with fail;rw[<-a4];clear a4 z0 z1;have x0:=e2.o.c4;have x1:=e2.o.c5;go_wp2_with fail;apply (Xx x y V4).mn;intro w5 I;have z0:=(b8.o.below I).c4;have z1:=(b8.o.below I).f4;have z2:=(b8.o.below I).c5;have z3:=(b8.o.below I).f5;have hsz5:=I.size;obtain⟨V5,a6⟩:=Ex ((sC w5 (w.1.size+1+1) 4 (ai x)).setCell (az (w.1.size+1+1) 5) (ai y));have h7:G3<V5.1.size:=by rw[a6];simp only[World.size_setCell];exact Oo
 have b9:Hh (W6 (w.1.size+1+1) (sZ G0 0 bs.length bs.length) (sZ G1 0 ps.length ps.length) (sZ G2 0 hs.length hs.length) (sZ G3 0 ws.length ws.length) (ai x) (ai y) V5):=(by rw[a6];exact((b8.o.below I).set4 _).set5 _);have M:Hh (W6 (w.1.size+1) sn sn sn sn (ai 0) (ai 0) V5):=(by rw[a6];exact((h1.o.below I).far Oo).far Oo);have i4:Hh (Bl w V5):=(by rw[a6];exact((bt h2 I).setCell (by show w.1.size<=w.1.size+1+1;omega) _).setCell (by show w.1.size<=w.1.size+1+1;omega) _);have h8:Hh (Half V5 G0 bs.length bs.length bs fH):=(by rw[a6];exact((h3.o.below Oo I).set Oo).set Oo);have h9:Hh (OwnI V5 G1 ps):=(by rw[a6];exact((h4.o.below I).set Oo).set Oo);have i0:Hh (OwnI V5 G2 hs):=(by rw[a6];exact((h5.o.below I).set Oo).set Oo);have i3:Hh (IRb V5 G3 ws):=(by rw[a6];exact h6.o.move (by rw[eG (by show G3≠w.1.size+1+1;omega),eG (by show G3≠w.1.size+1+1;omega)];exact I.block _ Oo));clear I x0 x1 b8 h1 e2 h2 h3 h4 h5 h6;go_upto_region 7 with fail;rw[<-a6];clear a6 z0 z1 z2 z3;have o0:=b9.o.c0;have o1:=b9.o.c1;have o2:=b9.o.c2;have o3:=b9.o.c3;have o4:=b9.o.c4;have o5:=b9.o.c5;have r0:=M.o.c0;have r1:=M.o.c1;have r2:=M.o.c2;have r3:=M.o.c3;have r4:=M.o.c4;have r5:=M.o.c5;have p0:=M.o.f0;have p1:=M.o.f1;have p2:=M.o.f2;have p3:=M.o.f3;have p4:=M.o.f4;have p5:=M.o.f5;have HF:=ay ((((((M.o.set0 (sZ G0 0 bs.length bs.length)).set1 (sZ G1 0 ps.length ps.length)).set2 (sZ G2 0 hs.length hs.length)).set3 (sZ G3 0 ws.length ws.length)).set4 (ai x)).set5 (ai y));go_wp2;have t0:=HF.o.c0;have t1:=HF.o.c1;have t2:=HF.o.c2;have t3:=HF.o.c3;have t4:=HF.o.c4;have t5:=HF.o.c5;refine aU (by simp[results,results8,go_sem,t0,t1,t2,t3,t4,t5]) rfl ⟨G0,G1,G2,G3,rfl,⟨?_,?_,?_,?_⟩,?_,?_,?_,?_,?_⟩;exact((((((h8.o.set Oo).set Oo).set Oo).set Oo).set Oo).set Oo).iss rfl;exact((((((h9.o.set Oo).set Oo).set Oo).set Oo).set Oo).set Oo).is;exact((((((i0.o.set Oo).set Oo).set Oo).set Oo).set Oo).set Oo).is
 .refine IRb.ir (i3.o.move ?_);have V:∀k,G3≠((az (w.1.size+1) k):Addr).block:=λk=>by show G3≠w.1.size+1;omega
  rw[eG (V 5),eG (V 4),eG (V 3),eG (V 2),eG (V 1),eG (V 0)]
 .have hle:∀k,w.1.size<=((az (w.1.size+1) k):Addr).block:=λk=>by show w.1.size<=w.1.size+1;omega
  exact(((((i4.o.setCell (hle 0) _).setCell (hle 1) _).setCell (hle 2) _).setCell (hle 3) _).setCell (hle 4) _).setCell (hle 5) _
 exact((((((h8.o.set Oo).set Oo).set Oo).set Oo).set Oo).set Oo).shss Oo;exact((((((h9.o.set Oo).set Oo).set Oo).set Oo).set Oo).set Oo).shE Oo;exact((((((i0.o.set Oo).set Oo).set Oo).set Oo).set Oo).set Oo).shE Oo;refine IRb.sh (i3.o.move ?_) Oo (by simp only[World.size_setCell];exact h7);have V:∀k,G3≠((az (w.1.size+1) k):Addr).block:=λk=>by show G3≠w.1.size+1;omega
 rw[eG (V 5),eG (V 4),eG (V 3),eG (V 2),eG (V 1),eG (V 0)]
end
end Go.Proofs.YtnpgdnaeghilhaaGreat
namespace Go.Proofs.YtnpgdnaeghilhaaGreat
open Go.ChangeShapes Go.WideShapes Go.ChangeAt Go.RowKit Go.Joins Go.Deep
variable {o:LI}{cs:LV}{B fuel i n j t g c:Nat}{v vt vo v0 v1 v2 y:Value}{W W' w wr w3:World}{α:Type}{l:List α}{tl:List TbV}{rl:List LL}
theorem Tryz.ownK:ownKnob Tryz.prog.godebug=none:=Kl
theorem Tryz.laidO:laidOutB Tryz.prog=true:=Kl
theorem Tryz.cellsI:Tryz.prog.cellsOf 3=1:=Kl
theorem Tryz.cellsIS:Tryz.prog.cellsOf 24=1:=Kl
theorem zU{f}{d:α}(h:j<n):((List.range n).map f).getD j d=f j:=by
 rw[gD,bK,List.getElem?_range h];rfl
variable {H:Type} {enc:TypeId×Value->H} {W:World}
theorem y6{x}(h:DataW.trod enc Tryz.prog W 0 (λ_=>true) true fuel 24 [v]=some x):
 ∃l,IS W v l/\l.length<=9223372036854775807:=by
 rcases open_slice1 Tryz.underlying24 Tryz.cellsI h with ⟨I,_⟩|⟨a,len,cap,m,n,V,D,Pl,I,_,hl,hm,K,_,M⟩;simp only[List.cons.injEq,and_true]at I;subst I;exact⟨[],⟨_,_,rfl,.inl rfl⟩,Ss⟩;simp only[List.cons.injEq,and_true]at I;subst I;rw[fE rfl]at K;have O:∀i,i<len->∃z,V i=ai z:=λi hi=>by
  have⟨_,h2⟩:=M i Oo;have⟨z,e0,_,_⟩:=DataW.trod_int Tryz.underlying3 h2;exact⟨z,by simpa using e0⟩
 have e:∀i,i<len->V i=ai (intOf (V i)):=λi hi=>by
  have⟨z,O⟩:=O i hi;rw[O];rfl
 refine⟨(List.range len).map λi=>intOf (V i),⟨some a,cap,Ss,?_⟩,by simp;unfold maxLen at hm;omega⟩;by_cases h0:len=0;left;simp[h0];right;have⟨b,o,spot⟩:=a;have hs:spot=none:=World.cell?_spot (M 0 Oo).1;subst hs;refine⟨b,o,rfl,λj hj=>?_⟩;simp only[lM,List.length_range]at hj;rw[zU hj,<-e j hj];unfold az;rw[<-add_plain];exact(M j Oo).1
theorem qB5{x}(h:DataW.trod enc Tryz.prog W 0 (λ_=>true) true fuel 23 [v]=some x):
 ∃ls,ISS W v ls/\Fits ls:=by
 rcases open_slice1 Tryz.underlying23 Tryz.cellsIS h with ⟨I,_⟩|⟨a,len,cap,m,n,V,D,Pl,I,_,hl,hm,M,_,O⟩;simp only[List.cons.injEq,and_true]at I;subst I;exact⟨[],⟨_,_,rfl,.inl rfl⟩,Ss,λj=>Ss⟩;simp only[List.cons.injEq,and_true]at I;subst I;rw[fE rfl]at M;have hz:∀i,i<len->∃l,IS W (V i) l/\l.length<=9223372036854775807:=λi hi=>by
  have⟨_,h2⟩:=O i Oo;exact y6 h2
 have⟨L,hL⟩:=choose_lt hz;refine⟨(List.range len).map L,⟨some a,cap,Ss,?_⟩,by simp;unfold maxLen at hm;omega,λj=>?_⟩
 .by_cases h0:len=0;left;simp[h0];right;have⟨b,o,spot⟩:=a;have hs:spot=none:=World.cell?_spot (O 0 Oo).1;subst hs;refine⟨b,o,rfl,λj K=>?_⟩;simp only[lM,List.length_range]at K;refine⟨V j,?_,?_⟩;unfold az;rw[<-add_plain];exact(O j Oo).1;rw[zU K];exact(hL j K).1
 by_cases K:j<len;rw[zU K];exact(hL j K).2;rw[gD,gN (by simpa using K)];simp
theorem Tryz.cellsISS:Tryz.prog.cellsOf 23=1:=Kl
theorem Tryz.cellsR:Tryz.prog.cellsOf 27=2:=Kl
theorem Tryz.cellsRS:Tryz.prog.cellsOf 25=1:=Kl
theorem Tryz.cellsPl:Tryz.prog.cellsOf 29=6:=Kl
theorem qI7(h:l.length=6):∃a b c d e f,l=[a,b,c,d,e,f]:=by
 match l,h with
 |[a,b,c,d,e,f],_=>exact⟨a,b,c,d,e,f,rfl⟩
theorem qI8(h:l.length=2):∃a b,l=[a,b]:=by
 match l,h with
 |[a,b],_=>exact⟨a,b,rfl⟩
theorem qHg{a:AV}(h:a.size=6):∃v0 v1 v2 v3 v4 v5,a=#[v0,v1,v2,v3,v4,v5]:=by
 have⟨l⟩:=a;match l,h with
 |[v0,v1,v2,v3,v4,v5],_=>exact⟨v0,v1,v2,v3,v4,v5,rfl⟩
section
variable {H:Type} {P:Program} {w:World} {enc:TypeId×Value->H} {base:Nat} {spare:NB} {held:Bool}
theorem qEm{t f0 f1 f2 f3 f4 x}(O:P.underlying t=some (.struct #[f0,f1,f2,f3,f4]))(h:DataW.trod enc P w base spare held fuel t cs=some x):
 ∃y0 y1 y2 K M n,cs.length=P.cellsOf t/\DataW.trod enc P w base spare held n f0.type ((cs.drop f0.offset).take (P.cellsOf f0.type))=some y0/\
  DataW.trod enc P w base spare held n f1.type ((cs.drop f1.offset).take (P.cellsOf f1.type))=some y1/\DataW.trod enc P w base spare held n f2.type ((cs.drop f2.offset).take (P.cellsOf f2.type))=some y2/\
  DataW.trod enc P w base spare held n f3.type ((cs.drop f3.offset).take (P.cellsOf f3.type))=some K/\DataW.trod enc P w base spare held n f4.type ((cs.drop f4.offset).take (P.cellsOf f4.type))=some M:=by
 obtain⟨xs,n,_,rfl,hl,hlen,I⟩:=DataW.trod_struct O h;match xs,hlen with
 |[y0,y1,y2,K,M],_=>exact⟨y0,y1,y2,K,M,n,hl,by simpa using I 0 f0 rfl,by simpa using I 1 f1 rfl,by simpa using I 2 f2 rfl,by simpa using I 3 f3 rfl,by simpa using I 4 f4 rfl⟩
end
variable {H:Type} {enc:TypeId×Value->H} {W:World}
theorem Xs{x}(h:DataW.trod enc Tryz.prog W 0 (λ_=>true) true fuel 27 cs=some x):
 ∃r:Int×Int,cs=[ai r.1,ai r.2]:=by
 have⟨y0,y1,n,_,hlen,I,K⟩:=trod_struct2 Tryz.underlying27 h;rw[Tryz.cellsR]at hlen;obtain⟨c0,c1,rfl⟩:=qI8 hlen;simp only[Tryz.cellsI,List.drop_zero,List.drop_succ_cons,List.take_succ_cons,List.take_zero]at I K;have⟨s,M,_,hs⟩:=DataW.trod_int Tryz.underlying3 I;have⟨z,O,_,V⟩:=DataW.trod_int Tryz.underlying3 K;simp only[List.cons.injEq,and_true]at M O;subst M O;exact⟨(s,z),rfl⟩
theorem qAT{x}(h:DataW.trod enc Tryz.prog W 0 (λ_=>true) true fuel 25 [v]=some x):
 ∃O,IR W v O/\O.length<=9223372036854775807:=by
 rcases open_slice Tryz.underlying25 h with ⟨I,_⟩|⟨a,len,cap,m,n,D,Pl,I,_,hl,hm,K,_,hV⟩;simp only[List.cons.injEq,and_true]at I;subst I;exact⟨[],⟨_,_,rfl,.inl rfl⟩,Ss⟩;simp only[List.cons.injEq,and_true]at I;subst I;rw[fE rfl]at K;have hz:∀i,i<len->∃r:Int×Int,(W.cell? (a.add (i*2))=some (ai r.1)/\W.cell? ((a.add (i*2)).add 1)=some (ai r.2))/\True:=λi hi=>by
  have⟨a3,V,h2⟩:=hV i Oo;rw[Tryz.cellsR]at V;have⟨_,hlen,hc⟩:=World.cells?_some V;obtain⟨r,rfl⟩:=Xs h2;have e0:=hc 0 Oo;exact⟨r,⟨by simpa[Addr.add]using e0,hc 1 Oo⟩,trivial⟩
 have⟨L,hL⟩:=choose_lt hz;refine⟨(List.range len).map L,⟨some a,cap,Ss,?_⟩,by simp;unfold maxLen at hm;omega⟩;by_cases h0:len=0;left;simp[h0];right;have⟨b,o,spot⟩:=a;have hs:spot=none:=World.cell?_spot (hL 0 Oo).1.1;subst hs;refine⟨b,o,rfl,λj M=>?_⟩;simp only[lM,List.length_range]at M;rw[zU M];have⟨⟨c0,c1⟩,_⟩:=hL j M;rw[add_plain]at c0;rw[add_plain,add_plain]at c1;exact⟨c0,c1⟩
theorem qAU{x}(h:DataW.trod enc Tryz.prog W 0 (λ_=>true) true fuel 29 cs=some x):
 ∃v0 v1 v2 v3 a b bs ps hs ws,cs=[v0,v1,v2,v3,ai a,ai b]/\IPl W v0 v1 v2 v3 bs ps hs ws/\Fits bs/\ps.length<=9223372036854775807/\hs.length<=9223372036854775807/\ws.length<=9223372036854775807:=by
 have⟨y0,y1,y2,y3,y4,n,hlen,I,K,M,O,V⟩:=qEm Tryz.underlying29 h;rw[Tryz.cellsPl]at hlen;obtain⟨c0,c1,c2,c3,c4,c5,rfl⟩:=qI7 hlen;simp only[Tryz.cellsIS,Tryz.cellsISS,Tryz.cellsRS,Tryz.cellsR,List.drop_zero,List.drop_succ_cons,List.take_succ_cons,List.take_zero]at I K M O V;have⟨bs,i0,f0⟩:=qB5 I;have⟨ps,i1,f1⟩:=y6 K;have⟨hs,i2,f2⟩:=y6 M;have⟨ws,i3,f3⟩:=qAT O;have⟨r,e⟩:=Xs V;simp only[List.cons.injEq,and_true]at e;obtain⟨rfl,rfl⟩:=e;exact⟨c0,c1,c2,c3,r.1,r.2,bs,ps,hs,ws,rfl,⟨i0,i1,i2,i3⟩,f0,f1,f2,f3⟩
open Go.Proofs.Tryz Meet
theorem jb w(h:ITs w vt tl)(hl:tl.length<=1048576):
 Cl 61 #[vt] w λe w'=>∃v,e=.returned v/\ISS w' v (tl.map TbV.vs)/\Bl w w':=by
 have⟨iS,V,b7,b8,b9⟩:=aX Tryz.infoIS;obtain⟨d8,ct,rfl,hc⟩:=h;have HC:Hh (∀W,Bl w W->∀j,j<tl.length->∃b oo v0,d8=some (az b oo)/\TabAt W b (oo+j*3) (tl.getD j qA)/\W.cell? (az b (oo+j*3))=some v0/\IS w v0 (tl.getD j qA).vs):=ay λW hW j V=>by
  rcases hc with h0|⟨b,oo,rfl,h⟩;omega;have⟨v0,v1,v2,c0,c1,c2,hI⟩:=h j V;exact⟨b,oo,v0,rfl,(h j V).below hW,xE hW c0,hI.vs⟩
 have HE:Hh (∀(W:World) (v:Value) (us:LV),Bl w W->W.ownsRow w.1.size 24 1 v tl.length us->(∀i,i<tl.length->IS w (us.getD i undef) (tl.getD i qA).vs)->ISS W v (tl.map TbV.vs)):=ay λW v us hW ho hu=>by
  have eg:∀i,i<tl.length->(tl.map TbV.vs).getD i []=(tl.getD i qA).vs:=λi hi=>by rw[gD,bK,gD,gE hi];rfl
  have e7:=ho.1;rcases ho.2 with ⟨rfl,hn⟩|⟨g,cap,cur,rfl,hb',hh,hn,-,-,ht⟩;exact⟨none,0,by rw[lM,hn],Or.inl (by rw[lM];exact hn)⟩;refine⟨_,cap,by rw[lM],Or.inr ⟨g,0,rfl,λj V=>?_⟩⟩;rw[lM]at V;refine⟨us.getD j undef,?_,by rw[eg j V];exact(hu j V).below hW⟩;rw[cU,eI hh,<-dY,<-cL (by omega:j<tl.length*1),ht,gD,gE Oo];rfl
 obtain⟨n,hn⟩:=Ex tl.length;rw[<-hn]at hl HC HE |-;clear hn hc;obtain⟨Wm,a3,K,a4⟩:=run_makeSlice_owned w w.1.size 23 24 _ _ 1 underlying23 V b7 b8 .i64 .i64 n Oo (by rw[b9];omega) Um Oo;have d9:=a3;have c8:=ay (eB.grown a4 eA (λk hk=>by cases hk));have c9:=ay K;clear a3 K a4;go_enter func61,ntmps61;go_upto_block 0 with fail;clear d9;go_wp2;go_loopw [3,11] (λu t wr=>∃(j:Nat) (vv:Value),j<=n/\t=ai j/\vv=u/\Hh (∃us,Bl w wr/\wr.ownsRow w.1.size 24 1 vv j us/\∀i,i<j->IS w (us.getD i undef) (tl.getD i qA).vs)) (λ_ t _=>n-(intOf t).toNat);exact⟨0,_,eC,rfl,rfl,ay ⟨[],c8,c9,λi hi=>Oo⟩⟩;clear c8 c9;obtain⟨j,vv,e8,rfl,rfl,HT⟩:=hrel;obtain⟨us,hB,hO,hU⟩:=HT.o;change Hh _ at hB hO hU;clear HT;by_cases e3:j<n
 .have i1:(j:Int)<n:=Oo;obtain⟨b,oo,e4,ea,⟨v0,v1,v2,c0,c1,c2,hI⟩,a5,d1⟩:=HC _ hB j e3;subst ea;obtain rfl:e4=v0:=by rw[c0]at a5;exact(Option.some.inj a5).symm
  obtain⟨a0,k0,e0,-⟩:=hI.vs;obtain⟨a1,k1,e1,-⟩:=hI.rows;obtain⟨a2,k2,e2,-⟩:=hI.ws;subst e0 e1 e2;have d2:=ay d1;clear a5 hI d1;generalize (tl.getD j qA).rows.length=nr at *;generalize (tl.getD j qA).ws.length=n2 at *;obtain⟨W3,M⟩:=Ex (wr.alloc (.cells #[.slice a0 (tl.getD j qA).vs.length k0,.slice a1 nr k1,.slice a2 n2 k2] 58));have a6:Bl wr W3:=by rw[M];exact(bJ _ _).alloc (nR _) _
  have d0:W3.cell? (az wr.1.size 0)=some (.slice a0 (tl.getD j qA).vs.length k0):=by rw[M,eH rfl];rfl
  have a7:=ay (bt hB a6);have a8:=ay (qB hO a6);have e5:=a7.o.size;clear a6;have d3:us.length=j:=O1 hO.1
  have a9:=ay d3;clear d3;obtain⟨nv,b1⟩:=Ex ((tl.getD j qA).vs.length);rw[<-b1]at c0 d0 M;have d4:Hh (IS w (.slice a0 nv k0) (tl.getD j qA).vs):=ay (by rw[b1];exact d2);clear b1 d2;go_upto_region 5 with fail;rw[<-M];clear M c0 c1 c2;go_wp2_with (at_builtin;refine wpList_append_lies _ rfl _ _ 23 rfl _ 24 _ _ 1 _ underlying23 V b7 b8 b9 rfl Dd vv _ _ rfl (a8.o.alloc _) (az _ 0) 1 1 _ rfl rfl (qH _ _ _) (λu hu=>by simp at hu;subst hu;rfl) Dd Um Oo Sy _ rfl ?_;intro g6 e6 w6 O I d5 d6);have HN:Hh (∃d7,Bl w w6/\w6.ownsRow w.1.size 24 1 (sZ g6 0 (j+1) e6) (j+1) d7/\∀i,i<j+1->IS w (d7.getD i undef) (tl.getD i qA).vs):=ay ⟨us++[.slice _ _ _],(a7.o.alloc e5 _).grown I Sy (λq hq=>(a8.o.lt q hq).1),O,λi hi=>by
   by_cases e:i<j;rw[gD,aL (by rw[a9.o];exact e),<-gD];exact hU i e;obtain rfl:i=j:=Oo;rw[gD,bQ (by rw[a9.o];exact eA),a9.o,Nat.sub_self];exact d4⟩
  clear O I d5 d6 a7 a8;go_roundw;exact⟨j+1,_,Oo,Gg,rfl,HN⟩;exact Im
 obtain rfl:j=n:=Oo;have i1:¬((j:Int)<j):=Oo;have HF:=ay (HE _ _ _ hB hO hU);clear HC HE hO hU;go_wp2;go_ret;exact⟨vv,rfl,HF,hB⟩
def yI(tl:List TbV)(o:LI):LL:=o.map λx=>plc (λi=>decide (x∈(tl.map TbV.vs).getD i [])) (tl.map TbV.vs).length
theorem YK o(h:ITs w vt tl)(ho:IS w vo o)(hl:tl.length<=1000)(e0:o.length<=1000)(b8:∀t∈tl,t.vs.length<=1000):
 Cl 120 #[vo,vt] w λe w'=>∃v us,e=.returned v/\RQ w' w.1.size v us (yI tl o)/\(∃g,v.ownBlock=some g)/\Bl w w':=by
 have⟨iS,hj,b9,c7,c8⟩:=aX Tryz.infoIS;have KE:=ay λW hW=>jb W (h.below hW) Oo;have KW:Hh (∀W v x,ISS W v (tl.map TbV.vs)->Cl 105 #[ai x,v] W λe w'=>∃v',e=.returned v'/\w'.ownsRow W.1.size 3 1 v' (plc (λi=>decide (x∈(tl.map TbV.vs).getD i [])) (tl.map TbV.vs).length).length ((plc (λi=>decide (x∈(tl.map TbV.vs).getD i [])) (tl.map TbV.vs).length).map ai)/\Bl W w'):=ay λW v x hv=>ye W v x hv ⟨by rw[lM];omega,λj=>by
  rw[gD,bK];cases e:tl[j]? with
  |none=>exact eC
  |some t=>have:=b8 t (List.mem_of_getElem? e);show t.vs.length<=_;omega⟩
 obtain⟨f7,ct,rfl,-⟩:=h;obtain⟨ao,co,rfl,c9⟩:=ho;have HC:Hh (∀W,Bl w W->∀j,j<o.length->∃b oo,ao=some (az b oo)/\W.cell? (az b (oo+j))=some (ai (o.getD j 0))):=ay λW hW j hj=>by
  rcases c9 with h0|⟨b,oo,rfl,h⟩;omega;exact⟨b,oo,rfl,xE hW (h j hj)⟩
 have HP:Hh (∀j,j<o.length->yI tl (o.take (j+1))=yI tl (o.take j)++[plc (λi=>decide (o.getD j 0∈(tl.map TbV.vs).getD i [])) (tl.map TbV.vs).length]):=ay λj hj=>by
  unfold yI;rw[qy hj,mA];rfl
 have a4:Hh (∀j,j<=o.length->(yI tl (o.take j)).length=j):=ay λj hj=>by unfold yI;rw[lM,bZ];omega
 have a8:Hh (yI tl (o.take o.length)=yI tl o):=ay (by rw[tL]);have e1:Hh (yI tl (o.take 0)=[]):=ay rfl;have⟨n,hn⟩:=Ex o.length;rw[<-hn]at e0 HC HP a4 a8 |-;clear hn c9 b8;have⟨nT,d0⟩:=Ex tl.length;rw[<-d0]at hl KE |-;clear d0;have⟨Wm,a6,K,a7⟩:=run_makeSlice_owned w w.1.size 23 24 _ _ 1 underlying23 hj b9 c7 .i64 .i64 n Oo (by rw[c8];omega) Um Oo;have e2:=a6;have d2:=ay (eB.grown a7 eA (λk hk=>by cases hk));have d3:=ay K;clear a6 K a7;go_enter func120,ntmps120;go_upto_block 0 with fail;clear e2;go_wp2;go_loopw [5,13] (λu t wr=>∃(j:Nat) (vv:Value),j<=n/\t=ai j/\vv=u/\Hh (∃us,Bl w wr/\RQ wr w.1.size vv us (yI tl (o.take j))/\∃g,vv.ownBlock=some g)) (λ_ t _=>n-(intOf t).toNat);exact⟨0,_,eC,rfl,rfl,ay ⟨[],d2,(by rw[e1.o];exact⟨d3,rfl,λi hi=>by simp at hi,λi j _ hj=>by simp at hj⟩),_,rfl⟩⟩;clear d2 d3;obtain⟨j,vv,e4,rfl,rfl,HT⟩:=hrel;obtain⟨us,hB,hQ,hg⟩:=HT.o;change Hh _ at hg hB hQ;clear HT;by_cases d4:j<n
 .have i1:=aV d4;obtain⟨b,oo,ea,c1⟩:=HC _ hB j d4;subst ea;have e5:=ay (HP j d4);have d5:=a4 j e4;have e6:=ay (KE _ hB);have e7:Hh (∀W v,ISS W v (tl.map TbV.vs)->_):=ay λW v hv=>KW W v (o.getD j 0) hv;generalize plc (λi=>decide (o.getD j 0∈(tl.map TbV.vs).getD i [])) (tl.map TbV.vs).length=pj at *;generalize o.getD j 0=ov at *;clear HC HP a4 KE KW;go_wp2_with (first
   |(go_at_call 61;apply e6.o.mono;rintro e w2 ⟨v2,rfl,d6,M⟩)
   |(go_at_call 105;apply (e7.o _ _ d6).mono;rintro e w3 ⟨v3,rfl,a5,a9⟩;have b1:=hQ.o.below (bt M a9);have b7:=bt hB (bt M a9);have e8:=b7.size;have O:=(by have:=b1.own;rw[d5]at this;exact this);obtain⟨a3,k3,e3⟩:=qt a5;subst e3)
   |(at_builtin;refine wpList_append_lies _ rfl _ _ 23 rfl _ 24 _ _ 1 _ underlying23 hj b9 c7 c8 rfl Dd vv _ _ rfl (O.alloc _) (az _ 0) 1 1 _ rfl rfl (qH _ _ _) (λu hu=>by simp at hu;subst hu;rfl) Dd Um Oo Sy _ rfl ?_;intro g6 d7 w6 V I d8 d9)
   |fail)
  have HN:Hh (∃e9,Bl w w6/\RQ w6 w.1.size (sZ g6 0 (j+1) d7) e9 (yI tl (o.take (j+1)))/\∃g,(sZ g6 0 (j+1) d7).ownBlock=some g):=ay ⟨us++[.slice a3 pj.length k3],(b7.alloc e8 _).grown I Sy (λq hq=>(O.lt q hq).1),(by
   rw[e5.o];exact b1.step (qE a5 (bM hB.o.size M.size)) (λi hi g h1 h2=>by
    have a1:=((hQ.o.each i hi).lt g h1).2;have a2:=(a5.lt g h2).1;have:=M.size;omega) (by rw[d5];exact V) I),_,rfl⟩
  clear V I d8 d9 b1 b7 O a5 d6 M a9;go_roundw;exact⟨j+1,_,Oo,Gg,rfl,HN⟩;exact Im
 obtain rfl:j=n:=Oo;have i1:=aY j;rw[a8.o]at hQ;clear HC KE KW HP a4 a8;go_wp2;go_ret;exact⟨vv,rfl,⟨us,hQ⟩,hg,hB⟩
structure TvF(t:TbV):Prop where
 vs:t.vs.length<=9223372036854775807
 rows:Fits t.rows
 ws:t.ws.length<=9223372036854775807
def szB(t:TbV):Nat:=t.vs.length+tot t.rows t.rows.length+t.ws.length
def xf(tl:List TbV):Nat:=(tl.map szB).sum
theorem Ue{left:Nat}(h:ITs w v tl)(hl:tl.length<=9223372036854775807)(hs:∀t∈tl,TvF t)(hle:left<=1048576):
 Cl 4 #[v,ai (left:Int)] w λe w'=>∃x,e=.returned (ai x)/\(0<=x->tl.length+xf tl<=left/\x<=1048576)/\Bl w w':=by
 obtain⟨a7,ct,rfl,hc⟩:=h;have HC:Hh (∀W,Bl w W->∀j,j<tl.length->∃b oo,a7=some (az b oo)/\TabAt W b (oo+j*3) (tl.getD j qA)):=ay λW hW j O=>by
  rcases hc with h0|⟨b,oo,rfl,h⟩;omega;exact⟨b,oo,rfl,(h j O).below hW⟩
 have HR:Hh (∀j,j<tl.length->TvF (tl.getD j qA)):=ay λj O=>hs _ (by rw[gD,gE O];exact gM _);have a3:Hh (∀j,j<tl.length->xf (tl.take (j+1))=xf (tl.take j)+szB (tl.getD j qA)):=ay λj O=>by
  unfold xf;rw[tA,gE O,mA,List.sum_append,gD,gE O];simp
 have a4:Hh (xf (tl.take tl.length)=xf tl):=ay (by rw[tL]);have⟨n,hn⟩:=Ex tl.length;rw[<-hn]at hl HC HR a3 a4 |-;clear hn hc hs;by_cases b1:left<n
 .have q1:(left:Int)-(n:Int)<0:=Oo;go_enter func4,ntmps4;go_wp2;go_ret;exact⟨_,rfl,λh=>absurd h Oo,eB⟩
 have q1:¬((left:Int)-(n:Int)<0):=Oo;go_enter func4,ntmps4;go_wp2;go_loopw [1,5] (λu t wr=>∃(j L:Nat),j<=n/\t=ai j/\u=ai (L:Int)/\L+n<=left/\Hh (L+n+xf (tl.take j)=left/\Bl w wr)) (λ_ t _=>n-(intOf t).toNat);exact⟨0,left-n,eC,rfl,congrArg ai Oo,Oo,ay ⟨by show left-n+n+0=left;omega,eB⟩⟩;obtain⟨j,L,b7,rfl,rfl,b8,K⟩:=hrel;by_cases M:j<n
 .have i1:=aV M;have⟨b,oo,ea,v0,v1,v2,c0,c1,c2,hI⟩:=HC _ K.2 j M;subst ea;have HF:=ay (HR j M);have a8:=ay (a3 j M);have KZ:=ay (Jz L hI HF.o.vs HF.o.rows HF.o.ws Oo Oo);have a5:Hh ((L<szB (tl.getD j qA)->szT (tl.getD j qA).vs (tl.getD j qA).rows (tl.getD j qA).ws (L:Int)=-1)/\(¬L<szB (tl.getD j qA)->szT (tl.getD j qA).vs (tl.getD j qA).rows (tl.getD j qA).ws (L:Int)=((L-szB (tl.getD j qA):Nat):Int))):=ay ⟨λh=>by
   unfold szB at h;unfold szT;rw[fE Oo],λh=>by
   unfold szB at h |-;unfold szT;rw[fF Oo];omega⟩
  obtain⟨a0,k0,e0,-⟩:=hI.vs;obtain⟨a1,k1,e1,-⟩:=hI.rows;obtain⟨a2,k2,e2,-⟩:=hI.ws;subst e0 e1 e2;clear hI HC HF;generalize szT (tl.getD j qA).vs (tl.getD j qA).rows (tl.getD j qA).ws (L:Int)=z,szB (tl.getD j qA)=sb,(tl.getD j qA).rows.length=nr,(tl.getD j qA).vs.length=n0,(tl.getD j qA).ws.length=n2 at *;by_cases hb:L<sb
  .have hz:=a5.1 hb;subst hz;go_wp2_with (go_at_call 20;apply KZ.o.mono;rintro e w2 ⟨rfl,I⟩);go_ret;exact⟨_,rfl,λh=>absurd h Dd,bt K.2 I⟩
  have hz:=a5.2 hb;obtain⟨V,a6⟩:=Ex (L-sb);rw[<-a6]at hz;subst hz;have q2:¬((V:Int)<0):=Oo;go_wp2_with (go_at_call 20;apply KZ.o.mono;rintro e w2 ⟨rfl,I⟩);have HN:Hh (V+n+xf (tl.take (j+1))=left/\Bl w w2):=ay ⟨by have h1:=a8.o;have h2:=K.1;omega,bt K.2 I⟩;clear I KZ K;go_roundw;exact⟨j+1,V,Oo,Gg,by rw[a6],Oo,HN⟩;exact Im
 obtain rfl:j=n:=Oo;have i1:=aY j;go_wp2;go_ret;exact⟨_,rfl,λ_=>⟨(by have h1:=K.1;rw[a4.o]at h1;omega),Oo⟩,K.2⟩
variable {H:Type} {enc:TypeId×Value->H} {W:World}
theorem Tryz.cellsTabL:Tryz.prog.cellsOf 52=3:=Kl
theorem Tryz.cellsISS6:Tryz.prog.cellsOf 23=1:=Kl
theorem qJf(h:l.length=3):∃a b c,l=[a,b,c]:=by
 match l,h with
 |[a,b,c],_=>exact⟨a,b,c,rfl⟩
open Go.Maps
theorem qAH w pm bf bb{vl l}K I D1 D2(hm:w.cell? (az pm 0)=some rgV)(h1:Wm qP w bf K D1)(h2:Wm qP w bb I D2)(hl:IS w vl l)(k8:l.length<=1000)(i3:∀y∈l,0<=y/\y<6)(l9:K.length<=1000000)(m0:I.length<=1000000):
 Cl 135 #[.pointer (some (az pm 0)),.map (some bf),.map (some bb),vl] w λe w'=>∃bo ks D,e=.returned (.map (some bo))/\w.1.size<=bo/\Wm qP w' bo ks D/\(∀a,a∈ks↔∃x∈K,∃y∈I,a=xu l x y)/\Bl w w':=by
 have l7:Tryz.prog.follows .mixedOrders=true:=Kl;have m1:=@run_makeMap Tryz.prog;have HL:=ay hl;obtain⟨al,cl,rfl,-⟩:=hl;have H1:=ay h1;have H2:=ay h2;have m2:=h1.lt;have m3:=h2.lt;have m4:pm<w.1.size:=bL w _ hm;have HM:=ay hm;have HI:=ay i3;have d4:(w.alloc (.map #[] 0)).ownsMap Tryz.prog 137 qP bf K.length D1:=(h1.bel (aK)).own;clear h1 h2 hm i3;go_enter func135,ntmps135;go_wp2_with (first
  |(at_range;refine wpList_range_own _ rfl _ 111 rfl _ 3 Tryz.lawA Tryz.underWo _ _ _ _ rfl d4 ?_;intro w5 d5 h4 i4)
  |go_in)
 try go_frame
 rw[aM]at d5 i4 |-;have i5:Hh (Cg K (Maps.has D1) []/\Wm qP w5 w.1.size [] (.map [])/\(∀a:LI,a∈([]:LL)↔∃x∈([]:LL),∃y∈I,a=xu l x y)/\([]:LL).length<=([]:LL).length*I.length/\([]:LL).length+Maps.size D1<=K.length/\Bl w w5/\w.1.size+1<w5.1.size):=(by
  refine⟨Cg.start H1,(Wm.start w).move (h4.block _ Ss Ss),λa=>Ss,Ss,by rw[H1.o.size];simp,(aK).grown h4 Ss (λj hj=>by cases hj),Oo⟩)
 clear h4 i4 d4;go_loopw [11] (λ_ wr=>∃(left:Lit->Bool) (e5:Nat) (ss ks:LL) (D:DataW Unit),wr.ranges Tryz.prog 137 qP bf (w.1.size+1) K.length D1 left e5/\Hh (Cg K left ss/\Wm qP wr w.1.size ks D/\(∀a,a∈ks↔∃x∈ss,∃y∈I,a=xu l x y)/\ks.length<=ss.length*I.length/\ss.length+e5<=K.length/\Bl w wr/\w.1.size+1<wr.1.size)) (λ_ wr=>wr.rangeLeft bf (w.1.size+1));exact⟨_,_,[],[],_,d5,i5⟩;clear i5 d5;have⟨left,e5,ss,ks,D,h5,HH⟩:=hrel;go_wp2_with (first
  |(at_next;refine wpList_next_ranges _ rfl _ rfl _ Tryz.lawA _ id ai (λkey kl hk=>⟨key,rfl⟩) (λv y hv=>uk hv) _ _ _ _ _ _ rfl h5 ?_ ?_)
  |go_in)
 .intro k9 hl0;go_wp2;go_ret;have⟨g1,g2,g3,g4,g5,g6,g7⟩:=HH.o;refine⟨_,ks,D,rfl,eA,g2,λa=>(g3 a).trans ⟨λ⟨x,hx,h⟩=>⟨x,g1.sub x hx,h⟩,λ⟨x,hx,h⟩=>⟨x,g1.rest x hx (hl0 _),h⟩⟩,g6⟩
 intro key c kl ya yb w6 a9 M d6 hv i6 b9 i7 hg1 hs1 b7;obtain⟨a,ha,h6,rfl,hs⟩:=HH.1.some _ d6;obtain rfl:key=asL a:=Tryz.lawA.inj M (yP h6);have⟨g1,g2,g3,g4,g5,g6,g7⟩:=HH.o;have l0:=ay (g1.step H1.o.ok ha hs);have l1:=ay h5;have i8:=ay i7;have i9:=g6.grown hg1 Oo (λj hj=>by cases hj;omega);have j0:=g2.move (hg1.block _ g2.lt Ss);clear h5 i7 M d6 hv i6 hs HH g2 g6 g1;unfold asL at b7 |-;generalize hf:(λi=>a.getD i 0)=f at *;unfold asV at b7 |-;go_upto_region 5 with fail;have d7:Bl w6 (w6.alloc (.cells #[ai (f 0),ai (f 1),ai (f 2),ai (f 3),ai (f 4),ai (f 5)] 137)):=aK;have h7:=six (w:=w6) f 137;have h8:=j0.bel d7;have e6:=xc b9 (d7.block _ b9.owns.lt) (d7.block _ b9.lt);have h9:=bt i9 d7;have j1:(w6.alloc (.cells #[ai (f 0),ai (f 1),ai (f 2),ai (f 3),ai (f 4),ai (f 5)] 137)).1.size=wr.1.size+1:=by rw[aM,hs1]
 rw[hs1]at h7;generalize w6.alloc (.cells #[ai (f 0),ai (f 1),ai (f 2),ai (f 3),ai (f 4),ai (f 5)] 137)=W7 at *;have d8:=(H2.o.bel h9).own;clear d7 i9 j0 b9 hg1 b7;go_wp2_with (first
  |(at_range;refine wpList_range_own _ rfl _ 111 rfl _ 3 Tryz.lawA Tryz.underWo _ _ _ _ rfl d8 ?_;intro w8 d9 d2 j2)
  |go_in)
 try go_frame
 rw[j1]at d9 j2 |-;have j3:Hh (w8.ranges Tryz.prog 137 qP bf (w.1.size+1) K.length D1 (λz=>left z&&!z.sameKey (kla a)) a9/\Cg I (Maps.has D2) []/\Wm qP w8 w.1.size ks D/\(∀q,q∈ks↔q∈ks\/∃y∈([]:LL),q=xu l a y)/\ks.length<=ks.length+([]:LL).length/\([]:LL).length+Maps.size D2<=I.length/\Bl w w8/\wr.1.size+1<w8.1.size/\ArrAt w8 wr.1.size 6 λi=>ai (f i)):=⟨xc e6 (d2.block _ e6.owns.lt Ss) (d2.block _ e6.lt Ss),Cg.start H2,h8.move (d2.block _ h8.lt Ss),λq=>Ss,Ss,by rw[H2.o.size];simp,h9.grown d2 Oo (λj hj=>by cases hj),Oo,h7.move (d2.block _ Oo Ss)⟩;have l2:=ay g3;have m5:=g7;clear h7 e6 h8 h9 d2 j2 d8 j1 g3 g7;generalize wr.1.size=z1 at *;go_loopw [13] (λ_ wq=>∃(a7:Lit->Bool) (c7:Nat) (tt O:LL) (D':DataW Unit),wq.ranges Tryz.prog 137 qP bb (z1+1) I.length D2 a7 c7/\Hh (wq.ranges Tryz.prog 137 qP bf (w.1.size+1) K.length D1 (λz=>left z&&!z.sameKey (kla a)) a9/\Cg I a7 tt/\Wm qP wq w.1.size O D'/\(∀q,q∈O↔q∈ks\/∃y∈tt,q=xu l a y)/\O.length<=ks.length+tt.length/\tt.length+c7<=I.length/\Bl w wq/\z1+1<wq.1.size/\ArrAt wq z1 6 λi=>ai (f i))) (λ_ wq=>wq.rangeLeft bb (z1+1));exact⟨_,_,[],ks,D,d9,j3⟩;clear j3 d9;have⟨a7,c7,tt,O,D',c8,HQ⟩:=hrel;go_wp2_with (first
  |(at_next;refine wpList_next_ranges _ rfl _ rfl _ Tryz.lawA _ id ai (λkey kl hk=>⟨key,rfl⟩) (λv y hv=>uk hv) _ _ _ _ _ _ rfl c8 ?_ ?_)
  |go_in)
 .intro k9 hl0;have⟨q1,q2,q3,q4,q5,q6,q7,q8,q9⟩:=HQ.o;have HF:Hh (Cg K (λz=>left z&&!z.sameKey (kla a)) (ss++[a])/\Wm qP wr w.1.size O D'/\(∀q,q∈O↔∃x∈ss++[a],∃y∈I,q=xu l x y)/\O.length<=(ss++[a]).length*I.length/\(ss++[a]).length+a9<=K.length/\Bl w wr/\w.1.size+1<wr.1.size):=⟨l0,q3,λq=>by
   rw[q4,l2.o];constructor
   .rintro (⟨x,hx,h⟩|⟨y,hy,h⟩);exact⟨x,dW _ hx,h⟩;exact⟨a,dX _ (cI.2 rfl),y,q2.sub y hy,h⟩
   rintro⟨x,hx,y,hy,h⟩;rcases cF.1 hx with hx|hx;exact .inl ⟨x,hx,y,hy,h⟩;rw[cI.1 hx]at h;exact .inr ⟨y,q2.rest y hy (hl0 _),h⟩,by rw[lA,lS,Nat.add_mul,Nat.one_mul];omega,by rw[lA,lS];have:=i8.o;omega,q7,Oo⟩
  have HR:=ay q1;clear HQ q1 q2 q3 q4 q5 q6 q7 q8 q9 c8 hl0;go_wp2;go_roundw;exact⟨_,a9,ss++[a],O,D',HR,HF⟩;rw[HR.o.left_eq,l1.o.left_eq];exact i8
 intro key c2 kl ya yb w9 e8 M d6 hv j4 c9 e9 d3 i0 b7;have⟨q1,q2,q3,q4,q5,q6,q7,q8,q9⟩:=HQ.o;obtain⟨y,hy,e0,rfl,j5⟩:=q2.some _ d6;obtain rfl:key=asL y:=Tryz.lawA.inj M (yP e0);have l3:=ay (q2.step H2.o.ok hy j5);have j6:=ay c8;have f7:=ay e9;have k0:=q7.grown d3 Oo (λj hj=>by cases hj;omega);have k3:=q3.move (d3.block _ q3.lt Sy);have e7:=xc q1 (d3.block _ q1.owns.lt Sy) (d3.block _ q1.lt Sy);have k4:=q9.move (d3.block _ Oo Ss);have l4:=ay q4;clear HQ c8 e9 M d6 hv j4 j5 q1 q2 q3 q4 q7 q9;unfold asL at b7 |-;generalize hgf:(λi=>y.getD i 0)=g at *;unfold asV at b7 |-;go_upto_region 8 with fail;have a3:Bl w9 (w9.alloc (.cells #[ai (g 0),ai (g 1),ai (g 2),ai (g 3),ai (g 4),ai (g 5)] 137)):=aK;have a4:=six (w:=w9) g 137;have a5:=k4.move (a3.block _ Oo);have f8:=k3.bel a3;have f9:=xc e7 (a3.block _ e7.owns.lt) (a3.block _ e7.lt);have g8:=xc c9 (a3.block _ c9.owns.lt) (a3.block _ c9.lt);have b1:=bt k0 a3;have l8:(w9.alloc (.cells #[ai (g 0),ai (g 1),ai (g 2),ai (g 3),ai (g 4),ai (g 5)] 137)).1.size=wr.1.size+1:=by rw[aM,i0]
 rw[i0]at a4;generalize (w9.alloc (.cells #[ai (g 0),ai (g 1),ai (g 2),ai (g 3),ai (g 4),ai (g 5)] 137))=W10 at *;generalize hz2:wr.1.size=z2 at *;have M:keyOf Tryz.prog 137 (asV (xR l f g))=some (kla (xu l a y)):=by
  have:=yP (qCm (l:=l) h6 e0);rw[qHT,hf,hgf]at this;exact this
 have KW:Hh (∀W,Bl W10 W->Cl 165 #[.agg #[ai (f 0),ai (f 1),ai (f 2),ai (f 3),ai (f 4),ai (f 5)],.agg #[ai (g 0),ai (g 1),ai (g 2),ai (g 3),ai (g 4),ai (g 5)],.slice al l.length cl] W λe w'=>e=.returned (asV (xR l f g))/\Bl W w'):=λW hW=>Zl W f g l (HL.o.below (bt b1 hW)) k8 HI;have HS:Hh (∀W,Bl W10 W->aC W pm 0 (.iface 68 (.agg #[]))/\aC W z1 0 (ai (f 0))/\aC W z1 1 (ai (f 1))/\aC W z1 2 (ai (f 2))/\aC W z1 3 (ai (f 3))/\aC W z1 4 (ai (f 4))/\aC W z1 5 (ai (f 5))/\aC W z2 0 (ai (g 0))/\aC W z2 1 (ai (g 1))/\aC W z2 2 (ai (g 2))/\aC W z2 3 (ai (g 3))/\aC W z2 4 (ai (g 4))/\aC W z2 5 (ai (g 5))):=λW hW=>⟨(hW.cell (p:=az pm 0) (by show pm<_;have:=b1.size;omega)).trans (qF b1 HM.o),(a5.below Oo hW).cell 0 Oo,(a5.below Oo hW).cell 1 Oo,(a5.below Oo hW).cell 2 Oo,(a5.below Oo hW).cell 3 Oo,(a5.below Oo hW).cell 4 Oo,(a5.below Oo hW).cell 5 Oo,(a4.below Oo hW).cell 0 Oo,(a4.below Oo hW).cell 1 Oo,(a4.below Oo hW).cell 2 Oo,(a4.below Oo hW).cell 3 Oo,(a4.below Oo hW).cell 4 Oo,(a4.below Oo hW).cell 5 Oo⟩;have HT:Hh (∀W W',Bl W10 W->W.mapTurned W' w.1.size->aC W' pm 0 (.iface 68 (.agg #[]))/\aC W' z1 0 (ai (f 0))/\aC W' z1 1 (ai (f 1))/\aC W' z1 2 (ai (f 2))/\aC W' z1 3 (ai (f 3))/\aC W' z1 4 (ai (f 4))/\aC W' z1 5 (ai (f 5))/\aC W' z2 0 (ai (g 0))/\aC W' z2 1 (ai (g 1))/\aC W' z2 2 (ai (g 2))/\aC W' z2 3 (ai (g 3))/\aC W' z2 4 (ai (g 4))/\aC W' z2 5 (ai (g 5))):=λW W' hW ht=>by
  have⟨s0,s1,s2,s3,s4,s5,s6,s7,s8,s9,l5,s11,s12⟩:=HS W hW;have n0:pm≠w.1.size:=Oo;have n1:z1≠w.1.size:=Oo;have n2:z2≠w.1.size:=Oo;exact⟨qk ht n0 s0,qk ht n1 s1,qk ht n1 s2,qk ht n1 s3,qk ht n1 s4,qk ht n1 s5,qk ht n1 s6,qk ht n2 s7,qk ht n2 s8,qk ht n2 s9,qk ht n2 l5,qk ht n2 s11,qk ht n2 s12⟩
 have d0:=ay f8;have d1:=ay f9;have e1:=ay g8;have e2:=ay a5;have e3:=ay b1;have hm:=Tryz.timesM;have m6:O.length<=2000000000000:=by
  have h3:ss.length*I.length<=1000000*1000000:=Nat.mul_le_mul Oo Oo;omega
 have k5:O.length<maxLen:=Um;have b0:Bl W10 W10.drew:=eB.drew;clear k4 a4 a5 k3 f8 e7 f9 c9 g8 k0 b1 a3 b7 d3 i0 hf hgf;go_region_held_law (λW=>aC W pm 0 (.iface 68 (.agg #[]))/\aC W z1 0 (ai (f 0))/\aC W z1 1 (ai (f 1))/\aC W z1 2 (ai (f 2))/\aC W z1 3 (ai (f 3))/\aC W z1 4 (ai (f 4))/\aC W z1 5 (ai (f 5))/\aC W z2 0 (ai (g 0))/\aC W z2 1 (ai (g 1))/\aC W z2 2 (ai (g 2))/\aC W z2 3 (ai (g 3))/\aC W z2 4 (ai (g 4))/\aC W z2 5 (ai (g 5)))
  (first
   |with_reducible exact HS.o _ b0
   |with_reducible exact HS.o _ bW
   |with_reducible exact HS.o _ bT
   |with_reducible exact HS.o _ bA
   |with_reducible exact HT.o _ _ bA V
   |fail)
  (first
   |(go_simp;go_at_call 165;(first
      |(with_reducible apply (KW.o _ bT).mn;intro l6 e4;have bA:=bt bT e4;have⟨b8,k6,a8,V⟩:=(d0.o.bel bA).own.store Tryz.lawA Tryz.underWo k5 M (val:=ai z) (d:=.agg []) (ps:=[]) rfl)
      |(with_reducible apply (KW.o _ b0).mn;intro l6 e4;have bW:=bt b0 e4)))
   |(go_simp;go_at_call 272;apply (Zn).mono;rintro e m7 ⟨⟨z,rfl⟩,g9⟩;(first|have bA:=bt bW g9;have⟨b8,k6,a8,V⟩:=(d0.o.bel bA).own.store Tryz.lawA Tryz.underWo k5 M (val:=ai z) rfl|have bT:=bt b0 g9))
   |fail)
 all_goals
  have a6:=(Kb.of_below bA).turned V
  have hsz:=e3.o.size
  have h0:=ay (xc (w':=b8) e1.o (a6.block bb e1.o.owns.lt Oo) (a6.block (z1+1) e1.o.lt Oo))
  have k7:=YG (a:=xu l a y) (ks:=O)
  have HE:Hh (b8.ranges Tryz.prog 137 qP bf (w.1.size+1) K.length D1 (λz=>left z&&!z.sameKey (kla a)) a9/\Cg I (λz=>a7 z&&!z.sameKey (kla y)) (tt++[y])/\Wm qP b8 w.1.size (xa (xu l a y) O) (D'.put (kla (xu l a y)) (.agg []))/\(∀q,q∈xa (xu l a y) O↔q∈ks\/∃y'∈tt++[y],q=xu l a y')/\(xa (xu l a y) O).length<=ks.length+(tt++[y]).length/\(tt++[y]).length+e8<=I.length/\Bl w b8/\z1+1<b8.1.size/\ArrAt b8 z1 6 λi=>ai (f i)):=⟨xc d1.o (a6.block bf d1.o.owns.lt Oo) (a6.block _ d1.o.lt Oo),l3.o,(d0.o.bel bA).put (qCm h6 e0) a8,λq=>by
   rw[um,l4.o];constructor
   .rintro (h|h|⟨y',h1,h2⟩);exact .inr ⟨y,dX _ (cI.2 rfl),h⟩;exact .inl h;exact .inr ⟨y',dW _ h1,h2⟩
   rintro (h|⟨y',h1,h2⟩);exact .inr (.inl h);rcases cF.1 h1 with h1|h1;exact .inr (.inr ⟨y',h1,h2⟩);rw[cI.1 h1]at h2;exact .inl h2,by rw[lA,lS];omega,by rw[lA,lS];have:=f7.o;omega,e3.o.trans (a6.below hsz eA),O1 a6.size,e2.o.move (a6.block z1 (e2.o.lt Oo) Oo)⟩
  clear a6 hsz a8 V k6 bA k7 HS HT KW M d0 d1 e2 e3
  go_wp2
  go_roundw;exact⟨_,e8,tt++[y],_,_,h0.o,HE⟩;rw[h0.o.left_eq,j6.o.left_eq];exact f7.o
def f2(x y:Value)(i:Nat):Value:=match i with|0=>x|_=>y
theorem V7{vs}(h:qb vs=true):(∀y∈vs,0<=y/\y<6)/\vs.length<=1000:=⟨λy I=>O1 (XM h I),O1 (kI h)⟩
def Wf(rows:LL):Prop:=∀r∈rows,∀x∈r,-9223372036854775808<=x/\x<=9223372036854775807
def xx(vs r:LI):LI:=(List.range 6).map (xS vs λi=>vlF vs r i)
theorem V8:∀vs r v,vlF vs r v=0\/vlF vs r v∈r
 |[],_,_=>.inl rfl
 |x::vs,[],v=>by
  unfold vlF;split;exact .inl rfl;exact(V8 vs [] v).imp id λh=>by cases h
 |x::vs,y::r,v=>by
  unfold vlF;split;exact .inr (cY ..);exact(V8 vs r v).imp id λh=>mC _ h
theorem V9{vs r}(h:∀x∈r,-9223372036854775808<=x/\x<=9223372036854775807):Ok6 (xx vs r):=by
 refine⟨by unfold xx;simp,λz I=>?_⟩;obtain⟨i,-,rfl⟩:=cC.1 I;unfold xS xR;split
 .rcases V8 vs r i with e|e;simp only[e];decide;exact h _ e
 show(-9223372036854775808:Int)<=0/\(0:Int)<=9223372036854775807;decide
theorem qHe vs r:asL (xx vs r)=asV (xS vs λi=>vlF vs r i):=rfl
theorem UA{vs rows ws}(h:IT w v0 v1 v2 vs rows ws)(a4:ql vs rows ws=true)(c9:Wf rows):
 Cl 138 #[.agg #[v0,v1,v2]] w λe w'=>∃b,e=.returned (.agg #[v0,.map (some b)])/\w.1.size<=b/\(∃ks D,Wm qP w' b ks D)/\Bl w w':=by
 have e3:Tryz.prog.follows .mixedOrders=true:=Kl;have e5:=@run_makeMap Tryz.prog;have⟨a5,d7,d0⟩:=qL a4;have d1:ws.length=rows.length:=by
  unfold ql at a4;rw[bV,dE]at a4;exact a4.2
 have⟨h6,d8⟩:=V7 a5;have HP:=ay (xK a5);change Hh _ at d0 c9 h6;obtain⟨a0,K,rfl,-⟩:=h.vs;obtain⟨a1,k1,rfl,hc1⟩:=h.rows;obtain⟨a2,k2,rfl,a3⟩:=h.ws;rw[d1]at a3 |-;have d2:=ay hc1;have d3:=ay a3;have HQ:=ay h6;have⟨n,hn⟩:=Ex rows.length;have⟨m,hm⟩:=Ex vs.length;rw[<-hn]at d2 d3 d7 |-;rw[<-hm]at d8 d0 |-;have⟨W4,a7⟩:=Ex ((((aJ w #[.slice a0 m K,.slice a1 n k1,.slice a2 n k2] 58).alloc (.cells #[sn,.map none] 198)).alloc (.map #[] 0)).alloc (.cells #[.slice a0 m K,.map (some (w.1.size+1+1))] 198));have d4:Bl w W4:=by rw[a7];exact(((aK).alloc Ss _).alloc Sy _).alloc Sy _
 have O:Hh (Bl w W4/\Wm qP W4 (w.1.size+1+1) [] (.map [])/\ArrAt W4 w.1.size 3 (f3 (.slice a0 m K) (.slice a1 n k1) (.slice a2 n k2))/\ArrAt W4 (w.1.size+1) 2 (f2 sn (.map none))/\ArrAt W4 (w.1.size+1+1+1) 2 (f2 (.slice a0 m K) (.map (some (w.1.size+1+1))))):=(by
  refine⟨d4,?_⟩;rw[a7];have x1:=qj w 3 (f3 (.slice a0 m K) (.slice a1 n k1) (.slice a2 n k2)) 58;have x2:=qj (aJ w #[.slice a0 m K,.slice a1 n k1,.slice a2 n k2] 58) 2 (f2 sn (.map none)) 198;have x3:=Wm.start (R:=qP) ((aJ w #[.slice a0 m K,.slice a1 n k1,.slice a2 n k2] 58).alloc (.cells #[sn,.map none] 198));have x4:=qj (((aJ w #[.slice a0 m K,.slice a1 n k1,.slice a2 n k2] 58).alloc (.cells #[sn,.map none] 198)).alloc (.map #[] 0)) 2 (f2 (.slice a0 m K) (.map (some (w.1.size+1+1)))) 198;rw[aM]at x2;rw[aM,aM]at x3;rw[aM,aM,aM]at x4;have B:∀{X:World} {o:Obj},Bl X (X.alloc o):=aK;exact⟨x3.bel B,((ArrAt.below x1 Oo B).below Oo B).below Oo B,(ArrAt.below x2 Oo B).below Oo B,x4⟩)
 have HN:=ay hn;have HM:=ay hm;have HV:Hh (IS w (.slice a0 m K) vs):=(by rw[hm];exact h.vs);clear hc1 a3 h a4 a5 d4 hn hm d1;go_enter func138,ntmps138;go_upto_region 2 with fail;rw[<-a7];clear a7;obtain⟨-,-,t3,-,-⟩:=id O.o;have⟨t0,t1,t2⟩:=t3.three;go_wp2;go_loopw [13] (λt wr=>∃(j:Nat) (ks:LL) (D:DataW Unit),j<=n/\t=ai j/\ks.length<=j/\Hh (Bl w wr/\Wm qP wr (w.1.size+1+1) ks D/\ArrAt wr w.1.size 3 (f3 (.slice a0 m K) (.slice a1 n k1) (.slice a2 n k2))/\ArrAt wr (w.1.size+1) 2 (f2 sn (.map none))/\ArrAt wr (w.1.size+1+1+1) 2 (f2 (.slice a0 m K) (.map (some (w.1.size+1+1)))))) (λt _=>n-(intOf t).toNat);exact⟨0,[],_,eC,rfl,eA,O⟩;clear O t0 t1 t2 t3;obtain⟨j,ks,D,hj,rfl,e6,HX⟩:=hrel;have⟨x0,x1,x2,x3,x4⟩:=HX.o;by_cases a8:j<n
 .have i1:=aV a8;rcases d2.o with h0|⟨b1,o1,rfl,hc1⟩;omega;rcases d3.o with h0|⟨b2,o2,rfl,a3⟩;omega;have⟨u,c1,hu⟩:=hc1 j a8;have d9:j<rows.length:=by rw[<-HN.o];exact a8
  have a9:=qz (d:=[]) d9;obtain⟨ar,kr,rfl,-⟩:=id hu;have e1:=qF x0 c1;have KA:=ay λW hW=>QW W _ ((HV.o.below x0).below hW) ((hu.below x0).below hW) (by rw[d0.o _ a9,HM.o]) (O1 HM.o) HQ HP;have b7:keyOf Tryz.prog 137 (asV (xS vs λi=>vlF vs (rows.getD j []) i))=some (kla (xx vs (rows.getD j []))):=yP (V9 (c9.o _ a9));have d5:=V9 (vs:=vs) (c9 _ a9);have HS:Hh (∀W,Bl wr W->aC W w.1.size 0 (.slice a0 m K)/\aC W w.1.size 2 (sZ b2 o2 n k2)/\aC W (w.1.size+1+1+1) 1 (.map (some (w.1.size+1+1)))/\aC W b2 (o2+j) (ai (ws.getD j 0))):=λW hW=>⟨(x2.below Oo hW).three.1,(x2.below Oo hW).three.2.2,(x4.below Oo hW).cell 1 Oo,qF hW (qF x0 (a3 j a8))⟩;have HT:Hh (∀W W',Bl wr W->W.mapTurned W' (w.1.size+1+1)->aC W' w.1.size 0 (.slice a0 m K)/\aC W' w.1.size 2 (sZ b2 o2 n k2)/\aC W' (w.1.size+1+1+1) 1 (.map (some (w.1.size+1+1)))/\aC W' b2 (o2+j) (ai (ws.getD j 0))):=λW W' hW ht=>by
   have⟨s0,s1,s2,s3⟩:=HS W hW;have e7:b2<w.1.size:=bL w _ (a3 j a8);have n0:w.1.size≠w.1.size+1+1:=Oo;have n1:w.1.size+1+1+1≠w.1.size+1+1:=Oo;have n2:b2≠w.1.size+1+1:=Oo;exact⟨qk ht n0 s0,qk ht n0 s1,qk ht n1 s2,qk ht n2 s3⟩
  have t1:=x2.three.2.1;have b8:=ay x1;have b9:=ay x0;have c7:=ay x2;have c8:=ay x3;have O:=ay x4;have b0:Bl wr wr.drew:=eB.drew;have e0:ks.length<maxLen:=Um;clear x0 x1 x2 x3 x4 HX c1 hu a9;generalize (rows.getD j []).length=lr,hfv:(xS vs λi=>vlF vs (rows.getD j []) i)=fv,xx vs (rows.getD j [])=ka,ws.getD j 0=xw at *;go_upto_region 5 with fail;go_region_held_law (λW=>aC W w.1.size 0 (.slice a0 m K)/\aC W w.1.size 2 (sZ b2 o2 n k2)/\aC W (w.1.size+1+1+1) 1 (.map (some (w.1.size+1+1)))/\aC W b2 (o2+j) (ai xw))
   (first
    |with_reducible exact HS.o _ b0
    |with_reducible exact HS.o _ bW
    |with_reducible exact HT.o _ _ bW I
    |fail)
   (first
    |(go_simp;go_at_call 132;with_reducible apply (KA.o _ b0).mn;intro e8 d6;have bW:=bt b0 d6;have⟨a6,e2,V,I⟩:=(b8.o.bel bW).own.store Tryz.lawA Tryz.underWo e0 b7 (val:=ai xw) rfl)
    |fail)
  all_goals
   have M:=(Kb.of_below bW).turned I
   have hsz:=b9.o.size
   have e4:=YG (a:=ka) (ks:=ks)
   have HE:Hh (Bl w a6/\Wm qP a6 (w.1.size+1+1) (xa ka ks) (D.put (kla ka) (.agg []))/\ArrAt a6 w.1.size 3 (f3 (.slice a0 m K) (sZ b1 o1 n k1) (sZ b2 o2 n k2))/\ArrAt a6 (w.1.size+1) 2 (f2 sn (.map none))/\ArrAt a6 (w.1.size+1+1+1) 2 (f2 (.slice a0 m K) (.map (some (w.1.size+1+1))))):=⟨b9.o.trans (M.below hsz Oo),(b8.o.bel bW).put d5 V,c7.o.move (M.block _ (c7.o.lt Oo) Oo),c8.o.move (M.block _ (c8.o.lt Oo) Oo),O.o.move (M.block _ (O.o.lt Oo) Oo)⟩
   clear M hsz V I e2 bW HS HT KA b7 b8 b9 c7 c8 O
   go_wp2
   go_roundw;exact⟨j+1,xa ka ks,_,Oo,Gg,Oo,HE⟩;exact Im
 obtain rfl:j=n:=Oo;have i1:=aY j;have c0:=x4.cell 0 Oo;have c1:=x4.cell 1 Oo;have z0:=x3.cell 0 Oo;have z1:=x3.cell 1 Oo;have g0:=x3.free 0 Oo;have g1:=x3.free 1 Oo;change Hh _ at x0 x1;clear x2 x3 x4 HX;unfold f2 at c0 c1 z0 z1;go_wp2;refine aU (v:=.agg #[.slice a0 m K,.map (some (w.1.size+1+1))]) (by simp[results,results138,go_sem,z0,z1]) rfl ⟨_,rfl,Oo,⟨ks,D,?_⟩,(x0.o.setCell (Nat.le_succ _) _).setCell (Nat.le_succ _) _⟩;exact(x1.o.move (eG (by show w.1.size+1+1≠w.1.size+1;omega))).move (eG (by show w.1.size+1+1≠w.1.size+1;omega))
variable {H:Type} {enc:TypeId×Value->H} {W:World}
def InR(l:LI):Prop:=∀y∈l,-9223372036854775808<=y/\y<=9223372036854775807
theorem qB6{x}(h:DataW.trod enc Tryz.prog W 0 (λ_=>true) true fuel 24 [v]=some x):
 ∃l,IS W v l/\l.length<=9223372036854775807/\InR l:=by
 rcases open_slice1 Tryz.underlying24 Tryz.cellsI h with ⟨I,_⟩|⟨a,len,cap,m,n,V,D,Pl,I,_,hl,hm,M,_,O⟩;simp only[List.cons.injEq,and_true]at I;subst I;exact⟨[],⟨_,_,rfl,.inl rfl⟩,Ss,λy hy=>by cases hy⟩;simp only[List.cons.injEq,and_true]at I;subst I;rw[fE rfl]at M;have K:∀i,i<len->∃z,V i=ai z/\(-9223372036854775808<=z/\z<=9223372036854775807):=λi hi=>by
  have⟨_,h2⟩:=O i Oo;have⟨z,e0,_,hw⟩:=DataW.trod_int Tryz.underlying3 h2;exact⟨z,by simpa using e0,by simpa[Lit.wf,IntKind.min,IntKind.max,IntKind.signed,IntKind.bits]using hw⟩
 have e:∀i,i<len->V i=ai (intOf (V i)):=λi hi=>by
  obtain⟨z,K,-⟩:=K i hi;rw[K];rfl
 refine⟨(List.range len).map λi=>intOf (V i),⟨some a,cap,Ss,?_⟩,by simp;unfold maxLen at hm;omega,λy hy=>?_⟩;rotate_left;obtain⟨i,hi,rfl⟩:=cC.1 hy;have⟨z,e1,e2⟩:=K i (cJ.1 hi);rw[e1];exact e2;by_cases h0:len=0;left;simp[h0];right;have⟨b,o,spot⟩:=a;have hs:spot=none:=World.cell?_spot (O 0 Oo).1;subst hs;refine⟨b,o,rfl,λj hj=>?_⟩;simp only[lM,List.length_range]at hj;rw[zU hj,<-e j hj];unfold az;rw[<-add_plain];exact(O j Oo).1
theorem qAV{x}(h:DataW.trod enc Tryz.prog W 0 (λ_=>true) true fuel 23 [v]=some x):
 ∃ls,ISS W v ls/\Fits ls/\Wf ls:=by
 rcases open_slice1 Tryz.underlying23 Tryz.cellsIS h with ⟨I,_⟩|⟨a,len,cap,m,n,V,D,Pl,I,_,hl,hm,M,_,O⟩;simp only[List.cons.injEq,and_true]at I;subst I;exact⟨[],⟨_,_,rfl,.inl rfl⟩,⟨Ss,λj=>Ss⟩,λy hy=>by cases hy⟩;simp only[List.cons.injEq,and_true]at I;subst I;rw[fE rfl]at M;have hz:∀i,i<len->∃l,IS W (V i) l/\l.length<=9223372036854775807/\InR l:=λi hi=>by
  have⟨_,h2⟩:=O i Oo;exact qB6 h2
 have⟨L,hL⟩:=choose_lt hz;refine⟨(List.range len).map L,⟨some a,cap,Ss,?_⟩,⟨by simp;unfold maxLen at hm;omega,λj=>?_⟩,λr hr=>?_⟩
 .by_cases h0:len=0;left;simp[h0];right;have⟨b,o,spot⟩:=a;have hs:spot=none:=World.cell?_spot (O 0 Oo).1;subst hs;refine⟨b,o,rfl,λj K=>?_⟩;simp only[lM,List.length_range]at K;refine⟨V j,?_,?_⟩;unfold az;rw[<-add_plain];exact(O j Oo).1;rw[zU K];exact(hL j K).1
 .by_cases K:j<len;rw[zU K];exact(hL j K).2.1;rw[gD,gN (by simpa using K)];simp
 obtain⟨i,hi,rfl⟩:=cC.1 hr;exact(hL i (cJ.1 hi)).2.2
theorem qAW{x}(h:DataW.trod enc Tryz.prog W 0 (λ_=>true) true fuel 52 cs=some x):
 ∃v0 v1 v2 t,cs=[v0,v1,v2]/\IT W v0 v1 v2 t.vs t.rows t.ws/\TvF t/\Wf t.rows:=by
 have⟨y0,y1,y2,n,_,hlen,I,K,M⟩:=trod_struct3 Tryz.underlying52 h;rw[Tryz.cellsTabL]at hlen;obtain⟨c0,c1,c2,rfl⟩:=qJf hlen;simp only[Tryz.cellsISS6,Tryz.cellsIS,List.drop_zero,List.drop_succ_cons,List.take_succ_cons,List.take_zero]at I K M;have⟨vs,O,f0⟩:=y6 I;have⟨rows,i1,f1,r1⟩:=qAV K;have⟨ws,i2,f2⟩:=y6 M;exact⟨c0,c1,c2,⟨vs,rows,ws⟩,rfl,⟨O,i1,i2⟩,⟨f0,f1,f2⟩,r1⟩
theorem JY{x}(h:DataW.trod enc Tryz.prog W 0 (λ_=>true) true fuel 22 [v]=some x):
 ∃tl,ITs W v tl/\tl.length<=9223372036854775807/\(∀t∈tl,TvF t)/\∀t∈tl,Wf t.rows:=by
 rcases open_slice Tryz.underlying22 h with ⟨I,_⟩|⟨a,len,cap,m,n,D,Pl,I,_,hl,hm,a3,_,hV⟩;simp only[List.cons.injEq,and_true]at I;subst I;exact⟨[],⟨_,_,rfl,.inl rfl⟩,Ss,(λt K=>by cases K),λt K=>by cases K⟩;simp only[List.cons.injEq,and_true]at I;subst I;rw[fE rfl]at a3;have hz:∀i,i<len->∃t:TbV,(∃v0 v1 v2,W.cell? (a.add (i*3))=some v0/\W.cell? ((a.add (i*3)).add 1)=some v1/\W.cell? ((a.add (i*3)).add 2)=some v2/\IT W v0 v1 v2 t.vs t.rows t.ws)/\TvF t/\Wf t.rows:=λi hi=>by
  have⟨a4,h1,h2⟩:=hV i Oo;rw[Tryz.cellsTabL]at h1;have⟨_,hlen,hc⟩:=World.cells?_some h1;obtain⟨v0,v1,v2,t,rfl,M,hf⟩:=qAW h2;have e0:=hc 0 Oo;exact⟨t,⟨v0,v1,v2,by simpa[Addr.add]using e0,hc 1 Oo,hc 2 Oo,M⟩,hf⟩
 have inh:Inhabited TbV:=⟨qA⟩
 have⟨L,V⟩:=choose_lt hz;refine⟨(List.range len).map L,⟨some a,cap,Ss,?_⟩,by simp;unfold maxLen at hm;omega,λt K=>?_,λt K=>?_⟩
 .by_cases h0:len=0;left;simp[h0];right;have⟨b,o,spot⟩:=a;have hs:spot=none:=by
   have⟨⟨v0,v1,v2,c0,_⟩,_⟩:=V 0 Oo;exact World.cell?_spot c0
  subst hs;refine⟨b,o,rfl,λj O=>?_⟩;simp only[lM,List.length_range]at O;rw[zU O];have⟨⟨v0,v1,v2,c0,c1,c2,M⟩,_⟩:=V j O;rw[add_plain]at c0;rw[add_plain,add_plain]at c1 c2;exact⟨v0,v1,v2,c0,c1,c2,M⟩
 obtain⟨j,O,rfl⟩:=cC.1 K;exact(V j (cJ.1 O)).2.1;obtain⟨j,O,rfl⟩:=cC.1 K;exact(V j (cJ.1 O)).2.2
structure JMx(x:JX)(nxt:LI->LI)(no:Nat):Prop where
 mem:∀t,t<x.nT->∀q,x.D t q->∀y,y∈x.N t q↔x.D t (q++[y])
 asc:∀t,t<x.nT->∀q,x.D t q->(x.N t q).Pairwise (·< ·)
 len:∀t,t<x.nT->∀q,x.D t q->(x.N t q).length<=1000000
 lT:x.nT<=1000
 lo:no<=1000
 hl:x.hav.length=no
 hav:∀k,k<no->x.hav.getD k []=plc (λt=>x.H t k) x.nT
 some:∀k,k<no->∃t,t<x.nT/\x.H t k=true
 more:∀p,p.length<no->(∀t,t<x.nT->x.D t (prt (x.H t) p))->∀t,t<x.nT->x.H t p.length=true->0<(x.N t (prt (x.H t) p)).length
 nx:∀p,p.length<no->(∀t,t<x.nT->x.D t (prt (x.H t) p))->∀g,g<x.nT->x.H g p.length=true->nxt p=(x.N g (prt (x.H g) p)).filter λy=>(plc (λt=>x.H t p.length) x.nT).all λt=>decide (y∈x.N t.toNat (prt (x.H t.toNat) p))
def JX.Hd(x:JX)(p:LI):Prop:=∀t,t<x.nT->x.D t (prt (x.H t) p)
def JX.tk(x:JX)(p:LI)(j:Nat):Nat:=((plc (λt=>x.H t p.length) x.nT).getD j 0).toNat
def JX.nh(x:JX)(p:LI):Nat:=(plc (λt=>x.H t p.length) x.nT).length
def JX.nd(x:JX)(p:LI)(j:Nat):Nat:=x.f (x.tk p j) (prt (x.H (x.tk p j)) p)
def JX.vl(x:JX)(p:LI)(j:Nat):LI:=x.N (x.tk p j) (prt (x.H (x.tk p j)) p)
theorem JX.tk_ok(x:JX)p(K:j<x.nh p):x.tk p j<x.nT/\x.H (x.tk p j) p.length=true/\(plc (λt=>x.H t p.length) x.nT).getD j 0=(x.tk p j:Int):=by
 have I:=yT K;unfold plc at I;have⟨i,hi,e⟩:=cC.1 I;have⟨M,O⟩:=cK.1 hi;have V:x.tk p j=i:=by
  unfold JX.tk;unfold plc;rw[<-e];rfl
 rw[V];exact⟨cJ.1 M,O,by unfold plc;exact e.symm⟩
theorem JX.tk_all(x:JX)p(I:t<x.nT)(K:x.H t p.length=true):∃j,j<x.nh p/\x.tk p j=t:=by
 have M:(t:Int)∈plc (λt=>x.H t p.length) x.nT:=by
  unfold plc;exact cC.2 ⟨t,cK.2 ⟨cJ.2 I,K⟩,rfl⟩
 have⟨j,O,e⟩:=yw M;exact⟨j,O,by unfold JX.tk;rw[e];omega⟩
def JX.all(x:JX)(p:LI)(y:Int):Bool:=(List.range (x.nh p)).all λj=>decide (y∈x.vl p j)
theorem JX.all_eq(x:JX)p y:((plc (λt=>x.H t p.length) x.nT).all λt=>decide (y∈x.N t.toNat (prt (x.H t.toNat) p)))=x.all p y:=by
 rw[Bool.eq_iff_iff,aT];unfold JX.all;rw[aT];constructor;intro h j I;exact h _ (yT (cJ.1 I));intro h t K;have⟨j,I,e⟩:=yw K;have:=h j (cJ.2 I);unfold JX.vl JX.tk at this;rw[e]at this;exact this
structure LG(x:JX)(B:Nat)(wr:World)(bB bH cu cc:Nat)(vp vb vt:Value)(p:LI)(q:NN):Prop where
 dat:Dat x wr
 brn:Brn x x.n0 wr vp vb p
 bx:BrX wr bB vp vb
 lB:x.n0<=bB
 bh:wr.1[bH]?=some (.cells #[vt] 24 (0,0))
 lH:x.n0<=bH
 nr:¬RBk x wr bH
 hB:x.n0<=B
 cur:wr.ownsRow B 268 2 (sZ cu 0 (x.nh p) cc) (x.nh p) (uF (x.nd p) q (x.nh p))
section
variable {x:JX} {B:Nat} {X Y:World} {bB bH cu cc:Nat} {vp vb vt:Value} {p:LI} {q:NN}
theorem LG.below(h:LG x B X bB bH cu cc vp vb vt p q)(I:x.Ok)(hb:Bl X Y):LG x B Y bB bH cu cc vp vb vt p q:=by
 have M:=h.bx.lt;have K:KT x.n0 X Y:=KT.of_below hb (O1 h.lB);exact⟨h.dat.kt K I,h.brn.below hb,h.bx.below hb,h.lB,(hb.block _ (qZ h.bh)).trans h.bh,h.lH,λO=>h.nr ((RBk.eq (K.bel.block _ I.r) _).1 O),h.hB,qB h.cur hb⟩
theorem LG.kp{S}(h:LG x B X bB bH cu cc vp vb vt p q)(K:x.Ok)(I:KpS x S X Y):LG x B Y bB bH cu cc vp vb vt p q:=by
 have hs:=I.sb K h.dat.ty;refine⟨h.dat.kp I K,h.brn.sb hs eA,(hs.same _ _ _ _ h.lB h.bx Dd Dd (.inl Dd)).trans h.bx,h.lB,(hs.same _ _ _ _ h.lH h.bh Dd Dd (.inr h.nr)).trans h.bh,h.lH,I.nr (qZ h.bh) h.nr,h.hB,qD h.cur λg O=>?_⟩;have⟨cur,M⟩:=qK h.cur O;exact(I.same g _ M (.inl rfl) (KpS.not K h.dat.ty (bM h.hB (h.cur.lt g O).1) M (.inl Dd))).trans M.symm
theorem qF4{nd n}{v:Nat}(hi:i<n):(uF nd q n).set (i*2+1) (ai v)=uF nd (λj=>if j=i then v else q j) n:=by
 induction n with
 |zero=>omega
 |succ n ih=>
  rw[jJ,jJ];by_cases e:i<n;rw[List.set_append_left _ _ (by rw[yn];omega),ih e,fF Oo];obtain rfl:i=n:=Oo;rw[List.set_append_right _ _ (by rw[yn];omega),yn,fE rfl,show i*2+1-i*2=1 by omega];congr 1;unfold uF;simp only[List.flatMap];congr 1;refine cV λj I=>?_;rw[fF (O1 (cJ.1 I))]
theorem LG.seek(h:LG x B X bB bH cu cc vp vb vt p q)(O:x.Ok)(hi:i<x.nh p)(v:Nat):LG x B (X.setCell (az cu (i*2+1)) (ai v)) bB bH cu cc vp vb vt p (λj=>if j=i then v else q j)/\KT B X (X.setCell (az cu (i*2+1)) (ai v)):=by
 have⟨cur,V⟩:=qK h.cur (g:=cu) rfl;have I:KT B X (sC X cu (i*2+1) (ai v)):=KT.set _ ((h.cur.lt cu rfl).1) V (.inl rfl);have M:=I.mono h.hB;have hs:=M.sb;refine⟨⟨h.dat.kt M O,h.brn.sb hs eA,(hs.same _ _ _ _ h.lB h.bx Dd Dd (.inl Dd)).trans h.bx,h.lB,(hs.same _ _ _ _ h.lH h.bh Dd Dd (.inr h.nr)).trans h.bh,h.lH,λh1=>h.nr ((RBk.eq (M.bel.block _ O.r) _).1 h1),h.hB,?_⟩,I⟩;have:=(h.cur.stored (i*2+1) (ai v)).1;rw[qF4 hi]at this;exact this
theorem LG.cq(h:LG x B X bB bH cu cc vp vb vt p q){nxt no}(hm:JMx x nxt no)(hp:p.length<no)(hd:x.Hd p)(hi:i<x.nh p):∃fb cap V cb,Cq X cu (i*2) (x.nd p i) fb cap (.slice (some (az V 0)) (x.vl p i).length cb) (x.vl p i) (q i)/\(x.vl p i).length<=cap/\
 ∀j,j<(x.vl p i).length->X.cell? (az V j)=some (.pointer (some (az (x.f (x.tk p i) (prt (x.H (x.tk p i)) p++[(x.vl p i).getD j 0])) 0))):=by
 obtain⟨h1,h2,-⟩:=x.tk_ok p hi;have hT:=h.dat.tr _ h1;have hD:=hd _ h1;have h0:=hm.more p hp hd _ h1 h2;have K:=hT.o0 _ hD;have M:=hT.o1 _ hD;obtain⟨ga,ca,ea,-⟩:=xg K h0;obtain⟨V,cb,eb,-⟩:=xg M h0;have a3:(x.vl p i).length<=ca:=by
  rcases K.2 with ⟨-,h2⟩|⟨g,cap,cur,e,-,-,hn,-⟩;exact absurd h2 Oo;rw[ea]at e;simp only[vI]at e;have:(x.vl p i).length<=cap:=hn;omega
 have⟨g1,g2⟩:=qAe (x.nd p) q i hi;refine⟨ga,ca,V,cb,⟨?_,?_,?_,?_,?_,λj O=>?_⟩,a3,λj O=>?_⟩;rw[h.cur.cellAt (i*2) Oo];exact g1;rw[h.cur.cellAt (i*2+1) Oo];exact g2;exact h.cur.frozenAt _;have:=hT.c0 hD;rw[ea]at this;exact this;have:=hT.c1 hD;rw[eb]at this;exact this;have I:j<(x.N (x.tk p i) (prt (x.H (x.tk p i)) p)).length:=O;obtain⟨g,c,e,h3⟩:=xg K O;rw[ea]at e;simp only[vI,oI,Addr.mk.injEq]at e;rw[e.1.1,h3,bK,gE I];show _=some (ai ((x.N (x.tk p i) (prt (x.H (x.tk p i)) p)).getD j 0));rw[gD,gE I];rfl;have I:j<(x.N (x.tk p i) (prt (x.H (x.tk p i)) p)).length:=O;obtain⟨g,c,e,h3⟩:=xg M O;rw[eb]at e;simp only[vI,oI,Addr.mk.injEq]at e;rw[e.1.1,h3,bK,gE I];show _=some (Value.pointer (some (az (x.f (x.tk p i) (prt (x.H (x.tk p i)) p++[(x.N (x.tk p i) (prt (x.H (x.tk p i)) p)).getD j 0])) 0)));rw[gD,gE I];rfl
end
def TrO(B:Nat)(W:World)(rows:LL)(c:OA):Prop:=rows=[]/\c=none\/rows≠[]/\∃D N f g0 g1,c=some (az (f []) 0)/\TM rows D N/\TR W B D N N f g0 g1/\∀p,D p->(N p).length<=rows.length
theorem TR.move{D N0 N1 f g0 g1}(h:TR W B D N0 N1 f g0 g1)(M:∀k,B<=k->k<W.1.size->W'.1[k]?=W.1[k]?):TR W' B D N0 N1 f g0 g1:=
 ⟨λp I=>(M _ (h.low p I) (h.lt I)).trans (h.blk p I),h.low,λp I=>qD (h.o0 p I) λg K=>M g ((h.o0 p I).lt g K).1 ((h.o0 p I).lt g K).2,λp I=>qD (h.o1 p I) λg K=>M g ((h.o1 p I).lt g K).1 ((h.o1 p I).lt g K).2,h.inj,h.a0,h.a1⟩
def ElT(B bx:Nat)(v:Value)(W:World)(rows:LL)(c:OA):Prop:=∀W',(∀k,k<W.1.size->v.ownBlock≠some k->k≠bx->W'.1[k]?=W.1[k]?)->TrO B W' rows c
structure RtS(W:World)(B bx:Nat)(v:Value)(rl:List LL)(cs:List (OA)):Prop where
 own:W.ownsRow B 181 1 v rl.length (cs.map Value.pointer)
 len:cs.length=rl.length
 el:∀t,t<rl.length->ElT B bx v W (rl.getD t []) (cs.getD t none)
theorem RtS.below{bx cs}(h:RtS W B bx v rl cs)(hb:Bl W W'):RtS W' B bx v rl cs:=
 ⟨qB h.own hb,h.len,λt K X M=>h.el t K X λk I O V=>by rw[M k (bN I hb.size) O V];exact hb.block k I⟩
theorem RtS.push{bx cs rows V o}(h:RtS wr B bx v rl cs)(hB:B<=wr.1.size)(b1:bx<wr.1.size)(hb:Bl wr W)(he:TrO wr.1.size W rows V)(hg:(W.alloc o).grownBy w3 v.ownBlock)
 (a3:w3.ownsRow B 181 1 (sZ g 0 (rl.length+1) c) (rl.length+1) (cs.map Value.pointer++[.pointer V])) (M:v.ownBlock=some g\/g=(W.alloc o).1.size) (a5:g≠bx):
 RtS (w3.setCell (az bx 1) y) B bx (sZ g 0 (rl.length+1) c) (rl++[rows]) (cs++[V]):=by
 have hs:=hb.size;have a6:=hg.size;rw[aM]at a6 M;have hsz:(sC w3 bx 1 y).1.size=w3.1.size:=by simp[World.setCell]
 refine⟨?_,by simp[h.len],λt ht W' a7=>?_⟩
 .rw[lA,lS,mA];refine qD a3 λk O=>eG λe=>?_;have:k=g:=by simpa[Value.ownBlock]using O.symm
  exact a5 (this.symm.trans e)
 have key:∀k,k<W.1.size->v.ownBlock≠some k->g≠k->k≠bx->W'.1[k]?=W.1[k]?:=λk O I K h3=>by
  rw[a7 k (by rw[hsz];omega) (λe=>K (by simpa[Value.ownBlock]using e)) h3,eG h3,hg.block k (by rw[aM];omega) (λe=>I e.symm)];exact eL O
 have a4:=λk O=>(h.own.lt k O).2;rw[lA,lS]at ht;by_cases e:t<rl.length
 .have e1:(rl++[rows]).getD t []=rl.getD t []:=by rw[gD,aL e,<-gD]
  have e2:(cs++[V]).getD t none=cs.getD t none:=by rw[gD,aL (by rw[h.len];exact e),<-gD]
  rw[e1,e2];refine h.el t e _ λk O I h3=>?_;rw[key k Oo I (λe=>?_) h3];exact hb.block k O;subst e;rcases M with K|K;exact I K;omega
 have a8:t=rl.length:=Oo;subst a8;have e1:(rl++[rows]).getD rl.length []=rows:=by rw[gD,bQ eA,Nat.sub_self];rfl
 have e2:(cs++[V]).getD rl.length none=V:=by rw[gD,bQ (by rw[h.len];exact eA),h.len,Nat.sub_self];rfl
 rw[e1,e2];rcases he with ⟨I,K⟩|⟨I,D,N,f,g0,g1,K,h3,h4,h5⟩;exact .inl ⟨I,K⟩;refine .inr ⟨I,D,N,f,g0,g1,K,h3,(h4.move λk b7 a9=>key k a9 (λe=>?_) (λe=>?_) Oo).base hB,h5⟩;have:=a4 k e;omega;subst e;rcases M with h6|h6;have:=a4 _ h6;omega;omega
def plO(vs:LI)(o:LI):LI:=(o.filter λv=>decide (v∈vs)).map λv=>(bsQ vs v:Int)
theorem qFv vs o v:plO vs (o++[v])=plO vs o++(if v∈vs then [(bsQ vs v:Int)] else []):=by
 unfold plO;rw[cZ,mA];congr 1;by_cases h:v∈vs;rw[fE h];simp[h];rw[fF h];simp[h]
theorem qHj{vs}(K:vs.Pairwise (·< ·))v:bsF vs v=decide (v∈vs):=by
 unfold bsF;by_cases h:v∈vs;have⟨I,M⟩:=XJ (jP K) h;rw[fD h,fD I,fD M];rfl;rw[fC h];by_cases I:bsQ vs v<vs.length;rw[fD I,fC (qDC h I)];rfl;rw[fC I];rfl
theorem qI9{vs}(I:vs.Pairwise (·< ·)):∀q∈plO vs o,0<=q/\q<vs.length:=λq hq=>by
 obtain⟨v,hv,rfl⟩:=cC.1 hq;have:=(XJ (jP I) (aN (cK.1 hv).2)).1;omega
theorem qFw{vs}(I:vs.Pairwise (·< ·))rows:xC rows (plO vs o)=rows.map (qQ vs (shr o vs)):=by
 unfold xC;refine cV λr _=>?_;unfold atP plO qQ shr;rw[List.map_map];refine cV λv hv=>?_;have⟨K,M⟩:=XJ (jP I) (aN (cK.1 hv).2);show r.getD ((bsQ vs v:Int)).toNat 0=vlF vs r v;rw[show((bsQ vs v:Int)).toNat=bsQ vs v by omega];have:=jL _ r _ I K;rw[M]at this;exact this.symm
end Go.Proofs.YtnpgdnaeghilhaaGreat
namespace Go.Proofs.YtnpgdnaeghilhaaGreat
open Go.Proofs.Tryz Go.RowKit Meet
variable {y:Int}{p:LI}{B i l t k:Nat}{hvv vb vp v0 v1:Value}{X Y Y0 w W:World}{x:JX}{J:WP}
def slA:Value->OA| .slice a _ _=>a|_=>none
def slN:Value->Nat| .slice _ n _=>n|_=>0
def slC:Value->Nat| .slice _ _ c=>c|_=>0
def qDh(b:Value×Value):AV:=#[.agg #[b.1,b.2]]
def qJA(x:JX)(nxt:LI->LI)(p:LI)(pre:LI)(y:Int)(b:Value×Value)(X Y:World):Prop:=Brn x X.1.size Y b.1 b.2 (p++[y])/\pre++[y] <+:nxt p/\(∃g c,b.1=sZ g 0 (p.length+1) c)/\∃g c,b.2=sZ g 0 x.nT c
def KpB(x:JX)(l0 l2:Nat):World->WP:=KpS x λk=>k=l0\/k=l2
theorem qAj(x:JX)p(I:t<x.nT):(x.bel p)[t]?=some (.pointer (some (az (x.f t (prt (x.H t) p)) 0))):=by
 unfold JX.bel;rw[bK,List.getElem?_range I];rfl
structure SkE(x:JX)(B:Nat)(X Y:World)(bB bH cu cc:Nat)(vp vb vt:Value)(p:LI)(q:NN)(i:Nat)(y:Int)(v:Nat):Prop where
 lg:LG x B Y bB bH cu cc vp vb vt p (λj=>if j=i then v else q j)
 kt:KT B X Y
 le:v<=(x.vl p i).length
 lo:∀m,m<v->(x.vl p i).getD m 0<y
 hi:∀m,v<=m->m<(x.vl p i).length->y<=(x.vl p i).getD m 0
section
variable {x:JX} {B:Nat} {X:World} {bB bH cu cc:Nat} {vp vb vt:Value} {p:LI} {q:NN} {nxt:LI->LI} {no:Nat}
theorem LG.seek_calls(h:LG x B X bB bH cu cc vp vb vt p q)(hx:x.Ok)(O:JMx x nxt no)(hp:p.length<no)(hd:x.Hd p)(hi:i<x.nh p)y(hq:q i<(x.vl p i).length)(V:∀m,m<q i->(x.vl p i).getD m 0<y):
 Cl 190 #[.pointer (some (az cu (i*2))),ai y] X λe w'=>(∃v,e=.returned v)/\∃v,SkE x B X w' bB bH cu cc vp vb vt p q i y v:=by
 obtain⟨M,h2,-⟩:=x.tk_ok p hi;obtain⟨fb,cap,gb,cb,hc,K,-⟩:=h.cq O hp hd hi;have I:Asc (x.vl p i):=jP (O.asc _ M _ (hd _ M));have hlen:(x.vl p i).length<=1000000:=O.len _ M _ (hd _ M);apply (Xz X _ _ _ y hc Oo K hq I).mono;rintro e w' ⟨hv,d,rfl⟩;refine⟨hv,q i+bsQ ((x.vl p i).drop (q i)) y,?_⟩;have⟨s1,s2,s3⟩:=ZF (Vv I (q i)) y;have⟨a3,a4⟩:=(h.below hx (below_drewN (bJ _ X) d)).seek hx hi (q i+bsQ ((x.vl p i).drop (q i)) y);have a6:=h.bx.lt
 rw[dP]at s1;refine⟨a3,(KT.of_below (below_drewN (bJ _ X) d) (by have:=h.cur.lt cu rfl;omega)).trans a4,Oo,λm a7=>?_,λm h3 h4=>?_⟩
 .by_cases e:m<q i;exact V m e;have:=s2 (m-q i) Oo;rw[gD,List.getElem?_drop,show q i+(m-q i)=m by omega,<-gD]at this;exact this
 have:=s3 (m-q i) Oo (by rw[dP];omega);rw[gD,List.getElem?_drop,show q i+(m-q i)=m by omega,<-gD]at this;exact this
theorem LG.ended_calls(h:LG x B X bB bH cu cc vp vb vt p q)(I:JMx x nxt no)(K:p.length<no)(hd:x.Hd p)(hi:i<x.nh p):
 aF 191 #[.pointer (some (az cu (i*2)))] X (.bool (decide (q i=(x.vl p i).length))) λw'=>∃d,w'=X.drewN d:=by
 obtain⟨fb,cap,O,V,M,-,-⟩:=h.cq I K hd hi;exact XG X M
theorem LG.value_calls(h:LG x B X bB bH cu cc vp vb vt p q)(I:JMx x nxt no)(K:p.length<no)(hd:x.Hd p)(hi:i<x.nh p)(hq:q i<(x.vl p i).length):
 aF 192 #[.pointer (some (az cu (i*2)))] X (ai ((x.vl p i).getD (q i) 0)) λw'=>∃d,w'=X.drewN d:=by
 obtain⟨fb,cap,O,V,M,-,-⟩:=h.cq I K hd hi;exact XH X M hq
theorem LG.below_calls(h:LG x B X bB bH cu cc vp vb vt p q)(I:JMx x nxt no)(K:p.length<no)(hd:x.Hd p)(hi:i<x.nh p)(hq:q i<(x.vl p i).length)(M:(x.vl p i).getD (q i) 0=y):
 aF 196 #[.pointer (some (az cu (i*2)))] X (.pointer (some (az (x.f (x.tk p i) (prt (x.H (x.tk p i)) p++[y])) 0))) λw'=>∃d,w'=X.drewN d:=by
 obtain⟨fb,cap,V,cb,O,-,hb⟩:=h.cq I K hd hi;have:=hb _ hq;rw[M]at this;exact XI X O hq this
end
theorem qAl{a0 a1:OA}{n0 c0 n1 c1}{a2:OA}{n2 c2}:
 aF 158 #[.agg #[.slice a0 n0 c0,.slice a1 n1 c1],.slice a2 n2 c2] w (.func (.func 187) #[] #[.pointer (some (az w.1.size 0)),.pointer (some (az (w.1.size+1) 0))]) λw'=>w'=(w.alloc (.cells #[.slice a0 n0 c0,.slice a1 n1 c1] 178)).alloc (.cells #[.slice a2 n2 c2] 24):=by
 go_enter func158,ntmps158;go_wp2;go_ret;exact⟨rfl,rfl⟩
structure Frm(b l:Nat)(vp vb hvv:Value)(W:World)(r:Bool):Prop where
 b3:BrX W b vp vb
 b4:W.1[b+1]?=some (.cells #[hvv] 23 (0,0))
 b5:W.1[b+2]?=some (.cells #[.func (.yield l) #[] #[]] 163 (0,0))
 b6:W.1[b+3]?=some (.cells #[.bool r] 4 (0,0))
section
variable {x:JX} {S:Nat->Prop} {b l:Nat} {vp vb hvv:Value} {X Y:World} {r:Bool}
theorem Frm.bel(h:Frm b l vp vb hvv X r)(hb:Below B X Y)(hB:b+3<B):Frm b l vp vb hvv Y r:=
 ⟨(hb.block _ Oo).trans h.b3,(hb.block _ Oo).trans h.b4,(hb.block _ Oo).trans h.b5,(hb.block _ Oo).trans h.b6⟩
theorem Frm.lt(h:Frm b l vp vb hvv X r):b+3<X.1.size:=qZ h.b6
theorem Frm.kp(h:Frm b l vp vb hvv X r)(I:KpS x S X Y)(K:x.Ok)(M:TyR x X)(O:x.n0<=b):Frm b l vp vb hvv Y r:=
 ⟨I.same _ _ h.b3 (.inl rfl) (KpS.not K M O h.b3 (.inl Dd)),I.same _ _ h.b4 (.inl rfl) (KpS.not K M Oo h.b4 (.inl Dd)),I.same _ _ h.b5 (.inl rfl) (KpS.not K M Oo h.b5 (.inl Dd)),I.same _ _ h.b6 (.inl rfl) (KpS.not K M Oo h.b6 (.inl Dd))⟩
theorem Frm.c4(h:Frm b l vp vb hvv X r):X.cell? (az (b+1) 0)=some hvv:=by rw[eI h.b4];rfl
theorem Frm.c5(h:Frm b l vp vb hvv X r):X.cell? (az (b+2) 0)=some (.func (.yield l) #[] #[]):=by rw[eI h.b5];rfl
theorem Frm.c6(h:Frm b l vp vb hvv X r):X.cell? (az (b+3) 0)=some (.bool r):=by rw[eI h.b6];rfl
theorem Frm.f6(h:Frm b l vp vb hvv X r):X.frozen? (az (b+3) 0)=false:=by unfold World.frozen?;rw[h.b6];simp
theorem Frm.set(h:Frm b l vp vb hvv X r)I:Frm b l vp vb hvv (X.setCell (az (b+3) 0) (.bool I)) I/\KT (b+3) X (X.setCell (az (b+3) 0) (.bool I)):=
 ⟨⟨(eG (by show b≠b+3;omega)).trans h.b3,(eG (by show b+1≠b+3;omega)).trans h.b4,(eG (by show b+2≠b+3;omega)).trans h.b5,by rw[eN h.b6];rfl⟩,KT.set _ eA h.b6 (.inr rfl)⟩
end
def HVs(x:JX)(no k:Nat)(v:Value):Prop:=∃hb o c,x.hv.ownBlock=some hb/\v=sZ hb o (no-k) c/\(0<no-k->o=k)/\no-k<=c
theorem HVs.cell{no hb nxt}(K:JMx x nxt no)(hd:Dat x W)(M:k<no)(I:x.hv.ownBlock=some hb):W.cell? (az hb k)=some (x.uh.getD k undef):=by
 obtain⟨g,cap,e,-,O⟩:=hd.hq.get (i:=k) (by rw[K.hl];exact M);rw[e]at I;have:g=hb:=by simpa[Value.ownBlock]using I
 rw[<-this];exact O
theorem KpS.keeps(h:KpS x (λk=>k=l) X Y)(I:x.Ok)(O:TyR x X)(hB:x.n0<=B)(hl:l<B):KeepsFrom B X Y:=by
 refine⟨h.size,λk o hk K ho=>h.same k o K (.inr Oo) λV=>?_⟩;have h1:=I.h;have h2:=I.r;have h3:=I.v;rcases V with e|e|e|e;omega;omega;omega;have⟨cur,z,M⟩:=O k e;rw[K]at M;cases M
 cases ho
theorem KpS.of_below{S}(h:Bl X Y)(I:x.r<X.1.size):KpS x S X Y:=(KpS.refl x S X).kt (KT.of_below h eA) I
structure WI(x:JX)(l:Nat)(J:WP)(Y0:World)(vp vb hvv:Value)(W:World):Prop where
 j:J W
 kp:KpS x (λk=>k=l) Y0 W
 fr:Frm Y0.1.size l vp vb hvv W false
 dat:Dat x W
theorem WI.kt(h:WI x l J Y0 vp vb hvv X)(K:x.Ok)(O:x.n0<=Y0.1.size)(M:∀X Y,J X->KT x.n0 X Y->J Y)(I:KT B X Y)(hB:Y0.1.size+3<B):WI x l J Y0 vp vb hvv Y:=
 ⟨M _ _ h.j (I.mono Oo),h.kp.kt (I.mono Oo) (O1 K.r),h.fr.bel I.bel hB,h.dat.kt (I.mono Oo) K⟩
structure WA(x:JX)(l:Nat)(J:WP)(Y0:World)(vp vb hvv:Value)(p:LI)(y:Int)(v0 v1:Value)(bq:Nat)(W:World):Prop where
 kp:KpS x (λk=>k=l) Y0 W
 fr:Frm Y0.1.size l vp vb hvv W false
 dat:Dat x W
 bx:BrX W bq v0 v1
 src:∃X,J X/\KT x.n0 X W/\x.n0<=X.1.size/\Brn x X.1.size W v0 v1 (p++[y])
theorem Brn.kt(h:Brn x B X vp vb p)(I:KT x.n0 X Y)(hB:x.n0<=B):Brn x B Y vp vb p:=h.sb I.sb hB
theorem WA.kt{bq}(h:WA x l J Y0 vp vb hvv p y v0 v1 bq X)(M:x.Ok)(hn:x.n0<=Y0.1.size)(K:KT B X Y)(hB:Y0.1.size+3<B):WA x l J Y0 vp vb hvv p y v0 v1 bq Y:=by
 have I:=K.mono (show x.n0<=B by omega);have⟨Z,V,h2,O,h4⟩:=h.src;exact⟨h.kp.kt (K.mono Oo) (O1 M.r),h.fr.bel K.bel hB,h.dat.kt I M,(K.cel _ _ _ _ h.bx Dd Dd).trans h.bx,Z,V,h2.trans I,O,h4.kt I O⟩
