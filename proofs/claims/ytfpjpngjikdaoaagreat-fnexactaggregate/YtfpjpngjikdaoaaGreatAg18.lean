import Derived.Test.YtfpjpngjikdaoaaGreatAg16
import Derived.Test.YtfpjpngjikdaoaaGreatAg15
import Derived.Test.YtfpjpngjikdaoaaGreatAg05
set_option maxHeartbeats 40000000
set_option maxRecDepth 1000000
set_option linter.defProp false
open List Go.World
open List renaming length->E,getD->U,range->wI
open Option renaming some->Q,none->wH
open Decidable renaming decide->oD
open Array renaming size->J
open Go.World renaming alloc->S,cell?->eQ,ownsRow->oW
open Go.Value renaming slice->Z,agg->aQ
open Go.Obj renaming cells->eZ
open Go.Ending renaming returned->rE
open Go renaming World->oX,Value->oV
namespace Go.Proofs.YtfpjpngjikdaoaaGreat
open Go.Proofs.Tryz Go.RowKit
def ky(X:LI)(F:Int->Int):LI:=(wI 6).map λi:Nat=>if (i:Int)∈X then F i else 0
def Y6{X:LI}{F:Int->Int}{i:Nat}(h:i<6):U (ky X F) i 0=if (i:Int)∈X then F i else 0:=by
 unfold ky;rw[gdR (by simp;exact h),fB,getElem_range]
def Zm{l b:LI}{F:Int->Int}(h:∀v∈l,v∈b):xM l (ky b F)=ky l F:=by
 unfold xM;refine cV λi hi=>?_;have hi:=cJ.1 hi;unfold xS xR;by_cases e:(i:Int)∈l;rw[fE e,fE e];show U (ky b F) i 0=_;rw[Y6 hi,fE (h _ e)];rw[fF e,fF e]
def qCn{l X:LI}{F F1 G:Int->Int}(h1:∀v∈l,F v=G v)(h2:∀v∈X,v∉l->F v=F1 v):xu l (ky X F1) (ky l G)=ky (X++l) F:=by
 unfold xu;refine cV λi hi=>?_;have hi:=cJ.1 hi;unfold xR;by_cases e:(i:Int)∈l;rw[fE e,fE (dX _ e),h1 _ e];show U (ky l G) i 0=_;rw[Y6 hi,fE e];rw[fF e];show U (ky X F1) i 0=_;rw[Y6 hi];by_cases e2:(i:Int)∈X;rw[fE e2,fE (dW _ e2),h2 _ e2 e];rw[fF e2,fF λh=>(cF.1 h).elim e2 e]
def qIw{l:LI}{F G:Int->Int}(h:ky l F=ky l G){v:Int}(hv:v∈l)(h6:0<=v/\v<6):F v=G v:=by
 have e:=congrArg (λx=>U x v.toNat 0) h;have e1:((v.toNat:Nat):Int)=v:=Oo;simp only[Y6 (show v.toNat<6 by omega),e1,fE hv]at e;exact e
def kL{l:LI}{F G:Int->Int}(h:∀v∈l,F v=G v):ky l F=ky l G:=by
 unfold ky;refine cV λi _=>?_;by_cases e:(i:Int)∈l;rw[fE e,fE e,h _ e];rw[fF e,fF e]
def fr(a:LI)(v:Int):Int:=U a v.toNat 0
def dy{X:LI}{F:Int->Int}{v:Int}(hv:v∈X)(h:0<=v/\v<6):fr (ky X F) v=F v:=by
 unfold fr;rw[Y6 Oo,show((v.toNat:Nat):Int)=v by omega,fE hv]
structure ChM(Ans:(Int->Int)->Prop)(b:LI)(cs:List Ch)(iU:Nat->LI):Prop where
 sh:∀j,j<E cs->∀v∈(U cs j zF).sh,v∈b
 hd:∀j,j<E cs->∀v∈(U cs j zF).hd,v∈iU j
 b6:∀v∈b,0<=v/\v<6
 u6:∀j,j<E cs->∀v∈iU j,0<=v/\v<6
 out:∀j,j<E cs->∀v,v∈iU j->(v∈b∨∃i,i<j/\v∈iU i)->v∈(U cs j zF).sh
 glue:∀j,j<E cs->∀F G H,Ans F->Ans G->(∀v∈(U cs j zF).sh,G v=F v)->(∀v,v∈iU j->H v=G v)->(∀v,v∉iU j->H v=F v)->Ans H
def qCo{cs:List Ch}{j:Nat}(hj:j<=E cs){v:Int}:v∈hds cs j↔∃i,i<j/\v∈(U cs i zF).hd:=by
 induction j with
 |zero=>
  constructor;intro h;cases h
  rintro⟨i,h,_⟩;omega
 |succ j ih=>
  rw[Qq Oo,cF,ih Oo];constructor
  ·rintro (⟨i,h1,h2⟩|h);exact⟨i,Oo,h2⟩;exact⟨j,Oo,h⟩
  rintro⟨i,h1,h2⟩;by_cases e:i=j;subst e;exact .inr h2;exact .inl ⟨i,Oo,h2⟩
def usF(b:LI)(iU:Nat->LI):Nat->LI
 |0=>b
 |j+1=>usF b iU j++iU j
def gwF(r:Nat)(g0:(Int->Int)->Int)(g:Nat->(Int->Int)->Int):Nat->(Int->Int)->Int
 |0,F=>g0 F
 |j+1,F=>TT r (gwF r g0 g j F) (g j F)
def dg{b:LI}{iU:Nat->LI}{v:Int}:∀{j:Nat},v∈usF b iU j↔v∈b∨∃i,i<j/\v∈iU i
 |0=>⟨.inl,λh=>h.elim id λ⟨i,hi,_⟩=>Oo⟩
 |j+1=>by
  show v∈usF b iU j++iU j↔_;rw[cF,dg (j:=j)];constructor
  ·rintro ((h|⟨i,hi,h⟩)|h);exact .inl h;exact .inr ⟨i,Oo,h⟩;exact .inr ⟨j,Oo,h⟩
  rintro (h|⟨i,hi,h⟩);exact .inl (.inl h);by_cases e:i=j;subst e;exact .inr h;exact .inl (.inr ⟨i,Oo,h⟩)
def Tel(r:Nat)(Ans P:(Int->Int)->Prop)(iU:LI)(g:(Int->Int)->Int)(z:Option Int):Prop:=SmP r (λa=>∃F,Ans F/\P F/\a=ky iU F) (λa=>g (fr a)) z
def Tel.small{r:Nat}{Ans P:(Int->Int)->Prop}{iU:LI}{g:(Int->Int)->Int}{z:Option Int}(h:Tel r Ans P iU g z)(h6:∀v∈iU,0<=v/\v<6)(hd:∀F G,(∀v∈iU,F v=G v)->g F=g G)(hs:r=3->∀F,Ans F->-9223372036854775808<=g F/\g F<=9223372036854775807):Sml r z:=λh3 x e=>by
 obtain⟨a,⟨F,hF,-,rfl⟩,rfl⟩:=h.min h3 e;rw[hd (fr (ky iU F)) F λv hv=>dy hv (h6 v hv)];exact hs h3 F hF
section
variable {r:Nat} {Ans:(Int->Int)->Prop} {b ow:LI} {cs:List Ch} {iU:Nat->LI} {g0:(Int->Int)->Int} {g:Nat->(Int->Int)->Int} {F0:Int->Int}
structure Dep(b:LI)(n:Nat)(iU:Nat->LI)(g0:(Int->Int)->Int)(g:Nat->(Int->Int)->Int):Prop where
 z:∀F G,(∀v∈b,F v=G v)->g0 F=g0 G
 kid:∀j,j<n->∀F G,(∀v∈iU j,F v=G v)->g j F=g j G
def Dep.all(h:Dep b (E cs) iU g0 g):∀{j},j<=E cs->∀F G,(∀v∈usF b iU j,F v=G v)->gwF r g0 g j F=gwF r g0 g j G
 |0,_,F,G,he=>h.z F G he
 |j+1,hj,F,G,he=>by
  show TT r _ _=TT r _ _;rw[h.all (j:=j) Oo F G λv hv=>he v (dW _ hv),h.kid j Oo F G λv hv=>he v (dX _ hv)]
def Fnd(r:Nat)(Ans:(Int->Int)->Prop)(b ow:LI)(cs:List Ch)(iU:Nat->LI)(g0:(Int->Int)->Int)(g:Nat->(Int->Int)->Int)(F0:Int->Int)(j:Nat)(x:LI)(z:Option Int):Prop:=Tel r Ans (λF=>(∀v∈b,F v=F0 v)/\x=ky (ow++hds cs j) F) (usF b iU j) (gwF r g0 g j) z
def us6(h:ChM Ans b cs iU){j:Nat}(hj:j<=E cs):∀v∈usF b iU j,0<=v/\v<6:=λv hv=>(dg.1 hv).elim (h.b6 v) λ⟨i,hi,hv⟩=>h.u6 i Oo v hv
def mL(h:ChM Ans b cs iU)(a3:∀v∈ow,v∈b){j:Nat}(hj:j<=E cs):∀v∈ow++hds cs j,v∈usF b iU j:=λv hv=>dg.2 ((cF.1 hv).imp (a3 v) λhv=>by
 have⟨i,h1,h2⟩:=(qCo hj).1 hv;exact⟨i,h1,h.hd i Oo v h2⟩)
def mM(h:ChM Ans b cs iU){j:Nat}(hj:j<E cs){F G:Int->Int}(hF:Ans F)(hG:Ans G)(hb:∀v∈b,F v=F0 v)(hs:ky (U cs j zF).sh F0=ky (U cs j zF).sh G):∃H,Ans H/\(∀v∈iU j,H v=G v)/\∀v∈usF b iU j,H v=F v:=by
 obtain⟨H,e1,e2⟩:∃H:Int->Int,(∀v,v∈iU j->H v=G v)/\∀v,v∉iU j->H v=F v:=⟨λv=>if v∈iU j then G v else F v,λv hv=>fE hv,λv hv=>fF hv⟩;have a3:∀v∈(U cs j zF).sh,G v=F v:=λv hv=>by
  have a4:=h.sh j hj v hv;rw[hb v a4];exact(qIw hs hv (h.b6 v a4)).symm
 refine⟨H,h.glue j hj F G H hF hG a3 e1 e2,e1,λv hv=>?_⟩;by_cases hu:v∈iU j;rw[e1 v hu];exact a3 v (h.out j hj v hu (dg.1 hv));exact e2 v hu
def lJ(h:ChM Ans b cs iU)(a7:∀v∈ow,v∈b)(hD:Dep b (E cs) iU g0 g){j:Nat}(hj:j<E cs){y x:LI}{z1 z2:Option Int}{α β:Int}(h1:Fnd r Ans b ow cs iU g0 g F0 j y z1)(h2:Tel r Ans (λG=>ky (U cs j zF).sh F0=ky (U cs j zF).sh G/\x=ky (U cs j zF).hd G) (iU j) (g j) z2)(e1:z1=Q α)(e2:z2=Q β):Fnd r Ans b ow cs iU g0 g F0 (j+1) (xu (U cs j zF).hd y x) (dt r z1 z2):=by
 have a3:=us6 h (pP hj);have a4:=mL h a7 (pP hj);have a5:=h.hd j hj;have key:∀a c,(∃F,Ans F/\((∀v∈b,F v=F0 v)/\y=ky (ow++hds cs j) F)/\a=ky (usF b iU j) F)->(∃G,Ans G/\(ky (U cs j zF).sh F0=ky (U cs j zF).sh G/\x=ky (U cs j zF).hd G)/\c=ky (iU j) G)->∃H,Ans H/\(∀v∈b,H v=F0 v)/\xu (U cs j zF).hd y x=ky (ow++hds cs (j+1)) H/\a=ky (usF b iU j) H/\c=ky (iU j) H/\y=ky (ow++hds cs j) H/\x=ky (U cs j zF).hd H/\xu (iU j) a c=ky (usF b iU j++iU j) H:=by
  rintro a c ⟨F,hF,⟨a6,hy⟩,ha⟩ ⟨G,hG,⟨hs,hx⟩,hc⟩;have⟨H,k1,k2,k3⟩:=mM h hj hF hG a6 hs;have q1:a=ky (usF b iU j) H:=ha.trans (kL λv hv=>(k3 v hv).symm);have q2:c=ky (iU j) H:=hc.trans (kL λv hv=>(k2 v hv).symm);have q3:y=ky (ow++hds cs j) H:=hy.trans (kL λv hv=>(k3 v (a4 v hv)).symm);have q4:x=ky (U cs j zF).hd H:=hx.trans (kL λv hv=>(k2 v (a5 v hv)).symm);refine⟨H,k1,λv hv=>(k3 v (dg.2 (.inl hv))).trans (a6 v hv),?_,q1,q2,q3,q4,?_⟩;rw[q3,q4,Qq hj,<-dN];exact qCn (λ_ _=>rfl) λ_ _ _=>rfl;rw[q1,q2];exact qCn (λ_ _=>rfl) λ_ _ _=>rfl
 have hp:=SmP.prod h1 h2 (xu (iU j)) (λa=>gwF r g0 g (j+1) (fr a)) (λa a' c c' ha a9 hc b1 e=>by
  obtain⟨H,-,-,-,q1,q2,-,-,q3⟩:=key a c ha hc;obtain⟨H',-,-,-,b7,b8,-,-,b9⟩:=key _ _ a9 b1;rw[q3,b9]at e;have ee:∀v∈usF b iU j++iU j,H v=H' v:=λv hv=>qIw e hv ((us6 h hj) v hv);exact⟨by rw[q1,b7];exact kL λv hv=>ee v (dW _ hv),by rw[q2,b8];exact kL λv hv=>ee v (dX _ hv)⟩) (λa c ha hc=>by
  obtain⟨H,-,-,-,q1,q2,-,-,q3⟩:=key a c ha hc;show TT r (gwF r g0 g j (fr (xu (iU j) a c))) (g j (fr (xu (iU j) a c)))=_;rw[q3,q1,q2,hD.all (pP hj) (fr (ky (usF b iU j++iU j) H)) (fr (ky (usF b iU j) H)) λv hv=>by rw[dy (dW _ hv) (a3 v hv),dy hv (a3 v hv)],hD.kid j hj (fr (ky (usF b iU j++iU j) H)) (fr (ky (iU j) H)) λv hv=>by rw[dy (dX _ hv) (h.u6 j hj v hv),dy hv (h.u6 j hj v hv)]])
 refine hp.V (λc=>⟨?_,?_⟩) λ_ _=>rfl;rintro⟨H,hH,⟨hb,hk⟩,rfl⟩;have⟨a1,m1⟩:=h1.ex e1;have⟨c1,m2⟩:=h2.ex e2;obtain⟨H1,-,-,p1,-,-,p2,p3,-⟩:=key _ _ m1 m2;rw[p1]at hk;rw[Qq hj,<-dN]at hk;have ee:∀v∈ow++hds cs j++(U cs j zF).hd,H1 v=H v:=λv hv=>qIw hk hv ((cF.1 hv).elim (λhv=>a3 v (a4 v hv)) λhv=>h.u6 j hj v (a5 v hv));exact⟨ky _ H,ky _ H,⟨H,hH,⟨hb,p2.trans (kL λv hv=>ee v (dW _ hv))⟩,rfl⟩,⟨H,hH,⟨kL λv hv=>(hb v (h.sh j hj v hv)).symm,p3.trans (kL λv hv=>ee v (dX _ hv))⟩,rfl⟩,(qCn (λ_ _=>rfl) λ_ _ _=>rfl).symm⟩;rintro⟨a,c',ha,hc,rfl⟩;obtain⟨H,k1,k2,k3,-,-,-,-,q3⟩:=key a _ ha hc;exact⟨H,k1,⟨k2,k3⟩,q3⟩
def lK(h:ChM Ans b cs iU)(a3:∀v∈ow,v∈b)(hD:Dep b (E cs) iU g0 g){j:Nat}(hj:j<E cs){M1 M2 M:LI->Option Int}(hM:JoM r (U cs j zF).hd M1 M2 (λ_ _=>True) M)(h1:∀y,∃z,Fnd r Ans b ow cs iU g0 g F0 j y z/\M1 y=z.map wrap64)(h2:∀x,∃z,Tel r Ans (λG=>ky (U cs j zF).sh F0=ky (U cs j zF).sh G/\x=ky (U cs j zF).hd G) (iU j) (g j) z/\M2 x=z.map wrap64)(x:LI):∃z,Fnd r Ans b ow cs iU g0 g F0 (j+1) x z/\M x=z.map wrap64:=by
 cases e:M x with
 |some v=>
  obtain⟨y,w,a,c,-,q1,q2,rfl,rfl⟩:=hM.1 x v e;have⟨z1,t1,e1⟩:=h1 y;have⟨z2,t2,e2⟩:=h2 w;rw[q1]at e1;rw[q2]at e2;cases z1 with
  |none=>cases e1
  |some α=>
   cases z2 with
   |none=>cases e2
   |some β=>
    refine⟨_,lJ h a3 hD hj t1 t2 rfl rfl,?_⟩;rw[eU e1,eU e2,lZ];rfl
 |none=>
  refine⟨wH,⟨[],nodup_nil,λc=>⟨λhc=>(by cases hc),?_⟩,rfl⟩,rfl⟩;rintro⟨H,hH,⟨hb,hk⟩,-⟩;exfalso;have⟨z1,t1,e1⟩:=h1 (ky (ow++hds cs j) H);have⟨z2,t2,e2⟩:=h2 (ky (U cs j zF).hd H);obtain⟨α,rfl⟩:=t1.some_of ⟨H,hH,⟨hb,rfl⟩,rfl⟩;obtain⟨β,rfl⟩:=t2.some_of ⟨H,hH,⟨kL λv hv=>(hb v (h.sh j hj v hv)).symm,rfl⟩,rfl⟩;have⟨z,hz⟩:=hM.2 _ _ _ _ trivial e1 e2;have e3:xu (U cs j zF).hd (ky (ow++hds cs j) H) (ky (U cs j zF).hd H)=x:=by
   rw[hk,Qq hj,<-dN];exact qCn (λ_ _=>rfl) λ_ _ _=>rfl
  rw[e3,e]at hz;cases hz
end
def QY{b:LI}(h:b.Pairwise (·< ·))(F:Int->Int):xx b (b.map F)=ky b F:=by
 unfold xx ky;refine cV λi _=>?_;unfold xS xR;by_cases e:(i:Int)∈b;rw[fE e,fE e];exact Qi h F e;rw[fF e,fF e]
def lv{b l:LI}(h:b.Pairwise (·< ·))(hl:∀v∈l,v∈b)(F:Int->Int):xM l (xx b (b.map F))=ky l F:=by rw[QY h,Zm hl]
def gj{r:Nat}{Ans:(Int->Int)->Prop}{b sh hd UU:LI}{rows:LL}{gg:(Int->Int)->Int}{f:LI->LI->Option Int}(hb:b.Pairwise (·< ·))(hr:∀z∈rows,∃F,Ans F/\b.map F=z)(hn:rows.Nodup)(a6:∀v∈sh,v∈b)(a7:∀v∈b,v∈UU)(h6:∀v∈UU,0<=v/\v<6)(a8:∀F G,(∀v∈UU,F v=G v)->gg F=gg G)(a9:r=3->∀F,Ans F->-9223372036854775808<=gg F/\gg F<=9223372036854775807)(hf:∀F0,Ans F0->b.map F0∈rows->∀x,∃z,Tel r Ans (λF=>(∀v∈b,F v=F0 v)/\x=ky hd F) UU gg z/\f (xx b (b.map F0)) x=z.map wrap64):∀n,n<=E rows->∀s x,∃z,Tel r Ans (λF=>b.map F∈rows.take n/\s=ky sh F/\x=ky hd F) UU gg z/\bl r b sh rows f n s x=z.map wrap64
 |0,_,s,x=>⟨wH,⟨[],nodup_nil,λa=>⟨λh=>(by cases h),λ⟨F,_,⟨h,_⟩,_⟩=>by cases h⟩,rfl⟩,rfl⟩
 |n+1,hle,s,x=>by
  have⟨z1,t1,e1⟩:=gj hb hr hn a6 a7 h6 a8 a9 hf n Oo s x;have a4:n<E rows:=Oo;have⟨F0,b8,a5⟩:=hr _ (qz (d:=[]) a4);have⟨z2,t2,e2⟩:=hf _ b8 (a5▸qz a4) x;have b1:∀F,b.map F=U rows n []↔∀v∈b,F v=F0 v:=λF=>a5▸map_inj_left
  have a3:∀F,b.map F∈rows.take (n+1)↔b.map F∈rows.take n∨∀v∈b,F v=F0 v:=λF=>by
   rw[tA,gE a4,cF,<-b1 F,gdR a4];simp
  have b7:U rows n []∉rows.take n:=λhm=>by
   have⟨i,hi,e⟩:=gO hm;rw[getElem_take,gdR a4]at e;rw[bZ]at hi;have:=(getElem_inj hn).1 e;omega
  show ∃z,_/\cg r (bl r b sh rows f n) (xM sh (xx b (U rows n []))) (f (xx b (U rows n []))) s x=_;rw[<-a5,lv hb a6];unfold cg;by_cases e:s=ky sh F0
  ·rw[fE e];refine⟨ju r _ _,(t1.union t2 λa h1 h2=>?_).V (λa=>⟨?_,?_⟩) (λ_ _=>rfl),?_⟩;obtain⟨F,-,⟨m1,-⟩,q1⟩:=h1;obtain⟨G,-,⟨m2,-⟩,q2⟩:=h2;refine b7 ?_;rw[<-(b1 F).2 λv hv=>(qIw (q1.symm.trans q2) (a7 v hv) (h6 v (a7 v hv))).trans (m2 v hv)];exact m1;rintro⟨F,m1,⟨m2,m3,m4⟩,m5⟩;exact((a3 F).1 m2).imp (λh=>⟨F,m1,⟨h,m3,m4⟩,m5⟩) λh=>⟨F,m1,⟨h,m4⟩,m5⟩
   ·rintro (⟨F,m1,⟨m2,m3,m4⟩,m5⟩|⟨F,m1,⟨m2,m3⟩,m5⟩);exact⟨F,m1,⟨(a3 F).2 (.inl m2),m3,m4⟩,m5⟩;exact⟨F,m1,⟨(a3 F).2 (.inr m2),e.trans (kL λv hv=>(m2 v (a6 v hv)).symm),m3⟩,m5⟩
   have s1:=t1.small h6 a8 a9;have s2:=t2.small h6 a8 a9;unfold dj;rw[e2];cases z2 with
   |none=>
    rw[fh];exact e1
   |some β=>
    unfold bu;rw[e1];cases z1 with
    |none=>rfl
    |some α=>
     show Q (plu r (wrap64 α) (wrap64 β))=Q (wrap64 (PP r α β));rw[fx s1 s2]
  rw[fF e];refine⟨z1,t1.V (λa=>⟨?_,?_⟩) (λ_ _=>rfl),e1⟩
  ·rintro⟨F,m1,⟨m2,m3,m4⟩,m5⟩;rcases (a3 F).1 m2 with h|h;exact⟨F,m1,⟨h,m3,m4⟩,m5⟩;exact absurd (m3.trans (kL λv hv=>h v (a6 v hv))) e
  rintro⟨F,m1,⟨m2,m3,m4⟩,m5⟩;exact⟨F,m1,⟨(a3 F).2 (.inl m2),m3,m4⟩,m5⟩
def kq{α β:Type}{f:α->β}:∀{l:List α} {ks:List β},ks.Nodup->(∀k∈ks,∃a∈l,k=f a)->E ks<=E l
 |[],ks,_,h=>by
  cases ks with
  |nil=>exact eA
  |cons k ks=>obtain⟨a,ha,-⟩:=h k (cY ..);cases ha
 |a::l,ks,hn,h=>by
  by_cases e:f a∈ks
  ·obtain⟨u,v,rfl⟩:=append_of_mem e;have hp:(f a::(u++v)).Nodup:=(perm_middle.nodup_iff).1 hn;have:=kq (l:=l) (nodup_cons.1 hp).2 λk hk=>by
    have⟨b,hb,e1⟩:=h k (by
     rcases cF.1 hk with h1|h1;exact dW _ h1;exact dX _ (mC _ h1))
    rcases cH.1 hb with rfl|hb;exact absurd (e1 ▸ hk) (nodup_cons.1 hp).1;exact⟨b,hb,e1⟩
   rw[lA]at this ⊢;simp only[cQ];omega
  have:=kq (l:=l) hn λk hk=>by
   have⟨b,hb,e1⟩:=h k hk;rcases cH.1 hb with rfl|hb;exact absurd (e1 ▸ hk) e;exact⟨b,hb,e1⟩
  simp only[cQ];omega
section
variable {n:Nat} {p:Nat->Nat} {b:Nat->LI}
def yO(p:Nat->Nat):Nat->Nat->Nat
 |0,j=>j
 |m+1,j=>yO p m (p j)
def Sbt(p:Nat->Nat)(n c j:Nat):Prop:=j<n/\∃m,yO p m j=c/\∀i,i<m->yO p i j<n
def Sbt.self{c:Nat}(h:c<n):Sbt p n c c:=⟨h,0,rfl,λi hi=>Oo⟩
def Sbt.up{c j:Nat}(h:Sbt p n c j)(a3:j≠c)(hc:c<n):Sbt p n c (p j):=by
 have⟨h1,m,h2,h3⟩:=h;cases m with
 |zero=>exact absurd h2 a3
 |succ m=>
  refine⟨?_,m,h2,λi hi=>h3 (i+1) Oo⟩;cases m with
  |zero=>
   have h2:p j=c:=h2;omega
  |succ m=>exact h3 1 Oo
def Sbt.down{c j:Nat}(h:Sbt p n c (p j))(hj:j<n):Sbt p n c j:=by
 obtain⟨-,m,h2,h3⟩:=h;refine⟨hj,m+1,h2,λi hi=>?_⟩;cases i with
 |zero=>exact hj
 |succ i=>exact h3 i Oo
def YF(hp:∀i,i<n->i<p i/\p i<=n)(hr:∀j,j<n->∀l,j<l->l<=n->∀v,v∈b j->v∈b l->v∈b (p j)){c:Nat}(hc:c<n){v:Int}:∀m j l,n+n-j-l<=m->Sbt p n c j->l<=n->¬Sbt p n c l->v∈b j->v∈b l->v∈b c/\v∈b (p c)
 |0,j,l,hm,hj,hl,hn,h1,h2=>O1 hj.1
 |m+1,j,l,hm,hj,hl,hn,h1,h2=>by
  have a4:=hj.1;rcases oE j l with e|e|e
  ·have h3:=hr j a4 l e hl v h1 h2;by_cases ec:j=c;subst ec;exact⟨h1,h3⟩;have:=hp j a4;exact YF hp hr hc m (p j) l Oo (hj.up ec hc) hl hn h3 h2
  subst e;exact absurd hj hn;have a3:l<n:=Oo;have:=hp l a3;exact YF hp hr hc m j (p l) Oo hj this.2 (λh=>hn (h.down a3)) h1 (hr l a3 j e Oo v h2 h1)
def Un(p:Nat->Nat)(n:Nat)(b:Nat->LI)(c:Nat)(v:Int):Prop:=∃j,Sbt p n c j/\v∈b j
def qAI(hp:∀i,i<n->i<p i/\p i<=n)(hr:∀j,j<n->∀l,j<l->l<=n->∀v,v∈b j->v∈b l->v∈b (p j)){c l:Nat}(hc:c<n)(hl:l<=n)(hn:¬Sbt p n c l){v:Int}(hu:Un p n b c v)(hv:v∈b l):v∈shr (b c) (b (p c)):=by
 have⟨j,h1,h2⟩:=hu;have⟨h3,h4⟩:=YF hp hr hc _ j l eA h1 hl hn h2 hv;exact cK.2 ⟨h3,fD h4⟩
def Vy(hp:∀i,i<n->i<p i/\p i<=n):∀m j,(∀i,i<m->yO p i j<n)->j<=yO p m j
 |0,j,_=>eA
 |m+1,j,h=>by
  have:=Vy hp m (p j) λi hi=>h (i+1) Oo;show j<=yO p m (p j);have:=hp j (h 0 Oo);omega
def Sbt.le(hp:∀i,i<n->i<p i/\p i<=n){c j:Nat}(h:Sbt p n c j):j<=c:=by
 obtain⟨-,m,h2,h3⟩:=h;rw[<-h2];exact Vy hp m j h3
def qHV(hp:∀i,i<n->i<p i/\p i<=n)(hr:∀j,j<n->∀l,j<l->l<=n->∀v,v∈b j->v∈b l->v∈b (p j)){R:Nat->LL}{Ans:(Int->Int)->Prop}(hA:∀F,(∀l,l<=n->(b l).map F∈R l)↔Ans F){c:Nat}(hc:c<n){F G H:Int->Int}(hF:Ans F)(hG:Ans G)(hs:∀v∈shr (b c) (b (p c)),G v=F v)(h1:∀v,Un p n b c v->H v=G v)(h2:∀v,¬Un p n b c v->H v=F v):Ans H:=by
 refine(hA H).1 λl hl=>?_;by_cases e:Sbt p n c l;rw[cV (g:=G) λv hv=>h1 v ⟨l,e,hv⟩];exact(hA G).2 hG l hl;rw[cV (g:=F) λv hv=>?_];exact(hA F).2 hF l hl;by_cases hu:Un p n b c v;rw[h1 v hu];exact hs v (qAI hp hr hc hl e hu hv);exact h2 v hu
end
section
variable {n:Nat} {p:Nat->Nat} {b:Nat->LI}
def Qr:∀(m k j:Nat),yO p (m+k) j=yO p k (yO p m j)
 |0,k,j=>by rw[cU];rfl
 |m+1,k,j=>by rw[show m+1+k=(m+k)+1 by omega];exact Qr m k (p j)
def Sbt.one(hp:∀i,i<n->i<p i/\p i<=n){c d j:Nat}(hc:Sbt p n c j)(hd:Sbt p n d j)(a4:c<n)(a3:d<n)(e:p c=p d):c=d:=by
 have key:∀{c d:Nat} (m k:Nat),yO p m j=c->yO p (m+k) j=d->(∀i,i<m+k->yO p i j<n)->c<n->d<n->p c=p d->c=d:=λ{c d} m k h1 h2 h3 a4 a3 e=>by
  rw[Qr,h1]at h2;cases k with
  |zero=>exact h2
  |succ k=>
   have h2:yO p k (p c)=d:=h2;have h4:=Vy hp k (p c) λi hi=>by
    have:=h3 (m+(i+1)) Oo;rwa[Qr,h1]at this
   have:=hp d a3;omega
 obtain⟨-,m,h1,h2⟩:=hc;obtain⟨-,k,h3,h4⟩:=hd;rcases Nat.le_total m k with hle|hle;exact key m (k-m) h1 (by rw[show m+(k-m)=k by omega];exact h3) (by rw[show m+(k-m)=k by omega];exact h4) a4 a3 e;exact(key k (m-k) h3 (by rw[show k+(m-k)=m by omega];exact h1) (by rw[show k+(m-k)=m by omega];exact h2) a3 a4 e.symm).symm
def kids(p:Nat->Nat)(i:Nat):List Nat:=(wI i).filter λc=>oD (p c=i)
def ui{i c:Nat}:c∈kids p i↔c<i/\p c=i:=by
 unfold kids;rw[cK,cJ,dE]
end
section
variable {n:Nat} {p:Nat->Nat} {b:Nat->LI} {ow:Nat->LI}
def hdF(ow:Nat->LI)(p:Nat->Nat):Nat->Nat->LI
 |0,_=>[]
 |f+1,i=>ow i++(kids p i).flatMap (hdF ow p f)
def hdT(ow:Nat->LI)(p:Nat->Nat)(i:Nat):LI:=hdF ow p (i+1) i
def uj{α β:Type}{f g:α->List β}:∀{l:List α},(∀x∈l,f x=g x)->l.flatMap f=l.flatMap g
 |[],_=>rfl
 |a::l,h=>by rw[dS,dS,h a (cY ..),uj λx hx=>h x (mC _ hx)]
def Qs:∀(f i:Nat),i<f->hdF ow p f i=hdT ow p i
 |f+1,i,h=>by
  unfold hdT;show ow i++_=ow i++_;congr 1;refine uj λc hc=>?_;have hc:=(ui.1 hc).1;rw[Qs f c Oo];rcases dL i f with e|e;exact(Qs i c hc).symm;rw[show i=f by omega,Qs f c Oo]
def kM(i:Nat):hdT ow p i=ow i++(kids p i).flatMap (hdT ow p):=by
 show ow i++_=_;congr 1;exact uj λc hc=>Qs i c (ui.1 hc).1
def U2(m j:Nat):yO p (m+1) j=p (yO p m j):=Qr m 1 j
def Sbt.P{c d j:Nat}(h:Sbt p n d j)(hd:d<n)(e:p d=c):Sbt p n c j:=by
 have⟨h1,m,h2,h3⟩:=h;refine⟨h1,m+1,by rw[U2,h2,e],λi hi=>?_⟩;by_cases e2:i=m;subst e2;rw[h2];exact hd;exact h3 i Oo
def qIy(hw:∀c,∀v∈ow c,v∈b c):∀c,c<n->∀v∈hdT ow p c,Un p n b c v:=λc=>by
 induction c using Nat.strongRecOn with
 |_ c ih=>
  intro hc v hv;rw[kM,cF]at hv;rcases hv with hv|hv;exact⟨c,Sbt.self hc,hw c v hv⟩;have⟨d,hd,hv⟩:=mem_flatMap.1 hv;have⟨h1,h2⟩:=ui.1 hd;have⟨j,h3,h4⟩:=ih d h1 Oo v hv;exact⟨j,h3.P Oo h2,h4⟩
def qCp(hp:∀i,i<n->i<p i/\p i<=n){v:Int}:∀(m j:Nat),(∀i,i<m->yO p i j<n)->v∈ow j->v∈hdT ow p (yO p m j)
 |0,j,_,hv=>by rw[kM];exact dW _ hv
 |m+1,j,h,hv=>by
  rw[kM,U2];exact dX _ (mem_flatMap.2 ⟨_,ui.2 ⟨(hp _ (h m Oo)).1,rfl⟩,qCp hp m j (λi hi=>h i Oo) hv⟩)
def qEe(hp:∀i,i<n->i<p i/\p i<=n):∀k j,n-j<=k->j<=n->∃m,yO p m j=n/\∀i,i<m->yO p i j<n
 |0,j,h1,h2=>⟨0,show j=n by omega,λi hi=>Oo⟩
 |k+1,j,h1,h2=>by
  rcases dL j n with e|e
  ·have:=hp j e;have⟨m,h3,h4⟩:=qEe hp k (p j) Oo this.2;refine⟨m+1,h3,λi hi=>?_⟩;cases i with
   |zero=>exact e
   |succ i=>exact h4 i Oo
  exact⟨0,show j=n by omega,λi hi=>Oo⟩
def qHW(hp:∀i,i<n->i<p i/\p i<=n){v:Int}{j:Nat}(hj:j<=n)(hv:v∈ow j):v∈hdT ow p n:=by
 have⟨m,h1,h2⟩:=qEe hp _ j eA hj;rw[<-h1];exact qCp hp m j h2 hv
def dh(hp:∀i,i<n->i<p i/\p i<=n){c:Nat}(hc:c<n){v:Int}:v∈hdT b p c↔Un p n b c v:=by
 constructor;exact qIy (λ_ _ h=>h) c hc v;rintro⟨j,⟨-,m,h1,h2⟩,hv⟩;rw[<-h1];exact qCp hp m j h2 hv
def qIx(hp:∀i,i<n->i<p i/\p i<=n)(hr:∀j,j<n->∀l,j<l->l<=n->∀v,v∈b j->v∈b l->v∈b (p j)){R:Nat->LL}{Ans:(Int->Int)->Prop}(hA:∀F,(∀l,l<=n->(b l).map F∈R l)↔Ans F){ch:Nat->Ch}(a3:∀c,c<n->(ch c).sh=shr (b c) (b (p c))/\∀v∈(ch c).hd,v∈hdT b p c)(h6:∀c,∀v∈b c,0<=v/\v<6){i:Nat}(hi:i<=n):ChM Ans (b i) ((kids p i).map ch) λj=>hdT b p (U (kids p i) j 0):=by
 have at_:∀j,j<E ((kids p i).map ch)->U ((kids p i).map ch) j zF=ch (U (kids p i) j 0)/\U (kids p i) j 0<n/\p (U (kids p i) j 0)=i/\U (kids p i) j 0<i:=λj hj=>by
  have a4:j<E (kids p i):=by rw[lM]at hj;exact hj
  have hm:=ui.1 (qz (d:=0) a4);exact⟨by rw[gdR hj,fB,gdR a4],Oo,hm.2,hm.1⟩
 refine⟨λj hj v hv=>?_,λj hj v hv=>?_,h6 i,λj hj v hv=>?_,λj hj v hu hv=>?_,λj hj F G H hF hG hs h1 h2=>?_⟩;obtain⟨e,e1,e2,-⟩:=at_ j hj;rw[e,(a3 _ e1).1,e2]at hv;exact uA hv;obtain⟨e,e1,-,-⟩:=at_ j hj;rw[e]at hv;exact(a3 _ e1).2 v hv;obtain⟨-,e1,-,-⟩:=at_ j hj;obtain⟨q,-,hq⟩:=(dh hp e1).1 hv;exact h6 q v hq
 ·have⟨e,e1,e2,e3⟩:=at_ j hj;rw[e,(a3 _ e1).1];have hu:=(dh hp e1).1 hu;rcases hv with hv|⟨k,hk,hv⟩;exact qAI hp hr e1 hi (λh=>O1 (h.le hp)) hu hv;obtain⟨-,f1,f2,f3⟩:=at_ k Oo;have⟨l,g1,g2⟩:=(dh hp f1).1 hv;refine qAI hp hr e1 (pP g1.1) (λh=>?_) hu g2;have e4:=h.one hp g1 e1 f1 (by rw[e2,f2]);rw[lM]at hj;rw[gdR hj,gdR (show k<E (kids p i) by omega)]at e4;have:=(getElem_inj (nodup_range.filter _)).1 e4;omega
 obtain⟨e,e1,-,-⟩:=at_ j hj;rw[e,(a3 _ e1).1]at hs;exact qHV hp hr hA e1 hF hG hs (λv hv=>h1 v ((dh hp e1).2 hv)) λv hv=>h2 v λh=>hv ((dh hp e1).1 h)
end
open Go.Maps
def Tryz.infoMg:(Tryz.prog.info? 149).map (λi=>(i.zero,i.size,i.bytes))=Q (Q (aQ #[.nilIface,sn,sn,.map wH]),4,72):=Kl
structure Mg where
 a1:Option Addr
 n1:Nat
 k1:Nat
 a2:Option Addr
 n2:Nat
 k2:Nat
 be:Nat
 ch:Ch
def mcl(r:Nat)(e:Mg):List oV:=[rgV r,Z e.a1 e.n1 e.k1,Z e.a2 e.n2 e.k2,.map (Q e.be)]
def zZ:Mg:=⟨wH,0,0,wH,0,0,0,zF⟩
structure MsM(r:Nat)(w W:oX)(v:oV)(es:List Mg):Prop where
 z:oW W (J w.1) 149 4 v (E es) (es.flatMap (mcl r))
 l:∀e∈es,ChA w (Z e.a1 e.n1 e.k1) (Z e.a2 e.n2 e.k2) e.be e.ch
 O:Bl w W
def YC{r:Nat}:∀{es:List Mg} {i:Nat},i<E es->(es.flatMap (mcl r))[i*4]?=Q (rgV r)/\(es.flatMap (mcl r))[i*4+1]?=Q (Z (U es i zZ).a1 (U es i zZ).n1 (U es i zZ).k1)/\(es.flatMap (mcl r))[i*4+2]?=Q (Z (U es i zZ).a2 (U es i zZ).n2 (U es i zZ).k2)/\(es.flatMap (mcl r))[i*4+3]?=Q (.map (Q (U es i zZ).be))
 |e::es,0,_=>⟨rfl,rfl,rfl,rfl⟩
 |e::es,i+1,h=>by
  rw[show(i+1)*4=i*4+1+1+1+1 by omega];exact YC (r:=r) (es:=es) (i:=i) (by simpa using h)
def MsM.is{r:Nat}{w0 w W:oX}{lo:Nat}{v:oV}{es:List Mg}(h:MsM r w W v es)(a3:lo<=J w.1)(he:∀e∈es,ChA w0 (Z e.a1 e.n1 e.k1) (Z e.a2 e.n2 e.k2) e.be e.ch):MsS r w0 W lo v (es.map Mg.ch):=by
 rcases h.z.2 with ⟨rfl,hn⟩|⟨g,cap,cur,rfl,a4,hh,hn,-,-,ht⟩;exact⟨wH,0,by rw[lM,hn],.inl (by rw[lM];exact hn)⟩;refine⟨_,cap,by rw[lM],.inr ⟨g,0,rfl,bM a3 a4,λj hj=>?_⟩⟩;rw[lM]at hj;have⟨f0,f1,f2,f3⟩:=YC (r:=r) hj;have ec:U (es.map Mg.ch) j zF=(U es j zZ).ch:=by rw[gdR (by rw[lM];exact hj),fB,gdR hj]
 rw[cU,ec];have cc:∀{p:Nat} {u:oV},p<E es*4->(es.flatMap (mcl r))[p]?=Q u->eQ W (az g p)=Q u:=λ{p u} hp hu=>by
  rw[eI hh,<-hu,<-ht,cL Oo,dY]
 exact⟨_,_,_,_,_,_,_,cc Oo f0,cc Oo f1,cc Oo f2,cc Oo f3,he _ (qz (d:=zZ) hj)⟩
def U0(w:oX)(x y z u:oV)(t:TypeId):∀j q,[x,y,z,u][j]?=Q q->(S w (eZ #[x,y,z,u] t)).cell? (((az (J w.1) 0):Addr).add j)=Q q:=news_of_block (dZ w _)
def yN(ps:LI)(i:Int)(es:List Mg)(n:Nat):List Mg:=((wI n).filter λj=>oD (U ps j 0=i)).map λj=>U es j zZ
def qEc(ps:LI)(i:Int)(es:List Mg)(n:Nat):yN ps i es (n+1)=if U ps n 0=i then yN ps i es n++[U es n zZ] else yN ps i es n:=by
 unfold yN;rw[dQ,cZ,mA];by_cases e:U ps n 0=i;rw[fE e,filter_cons_of_pos (by exact fD e)];rfl;rw[fF e,filter_cons_of_neg (by simpa using e),filter_nil,map_nil,dU]
def MgS(r:Nat)(w:oX)(v:oV)(es:List Mg):Prop:=∃a cap,v=Z a (E es) cap/\(E es=0∨∃b o,a=Q (az b o)/\∀j,j<E es->eQ w (az b (o+j*4))=Q (rgV r)/\eQ w (az b (o+j*4+1))=Q (Z (U es j zZ).a1 (U es j zZ).n1 (U es j zZ).k1)/\eQ w (az b (o+j*4+2))=Q (Z (U es j zZ).a2 (U es j zZ).n2 (U es j zZ).k2)/\eQ w (az b (o+j*4+3))=Q (.map (Q (U es j zZ).be))/\ChA w (Z (U es j zZ).a1 (U es j zZ).n1 (U es j zZ).k1) (Z (U es j zZ).a2 (U es j zZ).n2 (U es j zZ).k2) (U es j zZ).be (U es j zZ).ch)
def below_calls{r:Nat}(w:oX)(p0 p2:Option Addr)(n0 n2 c0 c2:Nat)(vp vs:oV)(ps:LI)(es:List Mg)(i:Int)(hp:IS w vp ps)(hs:MgS r w vs es)(hlen:E es<=E ps)(hn:E es<=1000):
 Cl 99 #[aQ #[Z p0 n0 c0,vp,Z p2 n2 c2],ai i,vs] w λe w'=>∃v,e=rE v/\MsM r w w' v (yN ps i es (E es))/\Bl w w':=by
 have⟨iR,hi,d6,d7,d8⟩:=aX Tryz.infoMg;obtain⟨ap,kp,rfl,b9⟩:=hp;obtain⟨e9,ks,rfl,b8⟩:=hs;obtain⟨n,c7⟩:=Ex (E es);rw[<-c7]at b8 hn hlen ⊢;obtain⟨W1,b7⟩:=Ex (S w (eZ #[Z p0 n0 c0,Z ap (E ps) kp,Z p2 n2 c2] 97))
 have d4:Hh (MsM r w W1 sn (yN ps i es 0)/\W1.1[J w.1]?=Q (eZ #[Z p0 n0 c0,Z ap (E ps) kp,Z p2 n2 c2] 97 (0,0))):=ay ⟨⟨eK,λe he=>(by cases he),by rw[b7];exact(bJ _ _).alloc (nR _) _⟩,b7▸eO⟩;have HP:=ay b9;have HC:=ay b8;have HL:Hh (∀j,E (yN ps i es j)<=j):=ay λj=>by
  unfold yN;rw[lM];exact bM (dH _ _) (length_range▸eA)
 clear b9 b8 c7;go_enter func99,ntmps99;go_upto_region 1 with fail;rw[<-b7];clear b7;go_wp2;go_loopw [7,12] (λv t wr=>∃j:Nat,j<=n/\t=ai j/\Hh (MsM r w wr v (yN ps i es j)/\wr.1[J w.1]?=Q (eZ #[Z p0 n0 c0,Z ap (E ps) kp,Z p2 n2 c2] 97 (0,0)))) (λ_ t _=>n-(intOf t).toNat);exact⟨0,eC,rfl,d4⟩;clear d4;obtain⟨j,hj,rfl,HX⟩:=hrel;by_cases d9:j<n
 ·have i1:=aV d9;rcases HC.o with h0|⟨b1,o1,rfl,e0⟩;omega;rcases HP.o with h0|⟨b2,o2,rfl,e2⟩;omega;obtain⟨g0,g1,g2,g3,e3⟩:=e0 j d9;have a4:=HX.1.O;replace g0:=qF a4 g0;replace g1:=qF a4 g1;replace g2:=qF a4 g2;replace g3:=qF a4 g3;unfold rgV at g0;have a5:=qEc ps i es j;have e5:=e2 j Oo;generalize hmg:U es j zZ=mg at *;generalize U ps j 0=x at *;have e1:eQ wr (az b2 (o2+j))=Q (ai x):=qF a4 e5;have t1:eQ wr (az (J w.1) 1)=Q (sZ b2 o2 (E ps) kp):=by rw[eI HX.o.2];rfl
  have f7:=HL j;go_upto_region 5 with fail;have a6:Bl wr (S wr (eZ #[.iface (rgT r) (aQ #[]),Z mg.a1 mg.n1 mg.k1,Z mg.a2 mg.n2 mg.k2,.map (Q mg.be)] 149)):=aK;have a7:(S wr (eZ #[.iface (rgT r) (aQ #[]),Z mg.a1 mg.n1 mg.k1,Z mg.a2 mg.n2 mg.k2,.map (Q mg.be)] 149)).1[J wr.1]?=Q (eZ #[.iface (rgT r) (aQ #[]),Z mg.a1 mg.n1 mg.k1,Z mg.a2 mg.n2 mg.k2,.map (Q mg.be)] 149 (0,0)):=eO;have a8:Hh (MsM r w (S wr (eZ #[.iface (rgT r) (aQ #[]),Z mg.a1 mg.n1 mg.k1,Z mg.a2 mg.n2 mg.k2,.map (Q mg.be)] 149)) u7 (yN ps i es j)/\(S wr (eZ #[.iface (rgT r) (aQ #[]),Z mg.a1 mg.n1 mg.k1,Z mg.a2 mg.n2 mg.k2,.map (Q mg.be)] 149)).1[J w.1]?=Q (eZ #[Z p0 n0 c0,sZ b2 o2 (E ps) kp,Z p2 n2 c2] 97 (0,0))):=ay ⟨⟨qB HX.1.z a6,HX.1.l,bt a4 a6⟩,(a6.block _ (dK.1 HX.2).1).trans HX.2⟩;replace e1:=qF a6 e1;replace t1:=qF a6 t1;generalize (S wr (eZ #[.iface (rgT r) (aQ #[]),Z mg.a1 mg.n1 mg.k1,Z mg.a2 mg.n2 mg.k2,.map (Q mg.be)] 149))=W2 at *;generalize J wr.1=z1 at *;have d0:eQ W2 (az z1 0)=Q (.iface (rgT r) (aQ #[])):=by rw[eI a7];rfl
  have d1:eQ W2 (az z1 1)=Q (Z mg.a1 mg.n1 mg.k1):=by rw[eI a7];rfl
  have d2:eQ W2 (az z1 2)=Q (Z mg.a2 mg.n2 mg.k2):=by rw[eI a7];rfl
  have d3:eQ W2 (az z1 3)=Q (.map (Q mg.be)):=by rw[eI a7];rfl
  have HO:=a8.1.z;have e6:=a8.1.O.size;clear a7;by_cases hx:x=i
  ·subst hx;rw[fE rfl]at a5;have d5:=ay a5;go_wp2_with (first
    |(at_builtin;refine wpList_append_lies _ rfl _ _ 145 rfl (J w.1) 149 iR (aQ #[.nilIface,sn,sn,.map wH]) 4 72 underlying145 hi d6 d7 d8 rfl Dd u7 (E (yN ps x es j)) ((yN ps x es j).flatMap (mcl r)) rfl (HO.alloc _) (az _ 0) 1 1 [.iface (rgT r) (aQ #[]),Z mg.a1 mg.n1 mg.k1,Z mg.a2 mg.n2 mg.k2,.map (Q mg.be)] rfl rfl (U0 _ _ _ _ _ _) (λu hu=>by simp at hu;rcases hu with rfl|rfl|rfl|rfl <;> rfl) Dd Um Oo Sy _ rfl ?_;intro g4 c4 w4 a9 a3 e7 e8)
    |fail)
   have HE:Hh (MsM r w w4 (sZ g4 0 (E (yN ps x es j)+1) c4) (yN ps x es (j+1))/\w4.1[J w.1]?=Q (eZ #[Z p0 n0 c0,sZ b2 o2 (E ps) kp,Z p2 n2 c2] 97 (0,0))):=ay (by
    obtain⟨y1,y2⟩:=a8.o;refine⟨⟨by rw[d5.o,lA,lS,dM];exact a9,λe he=>?_,(y1.O.alloc e6 _).grown a3 Sy (λk hk=>(HO.lt k hk).1)⟩,?_⟩
    ·rw[d5.o]at he;rcases cF.1 he with he|he;exact y1.l e he;rw[cI.1 he];exact e3
    refine(a3.block _ (by have:=(dK.1 y2).1;simp;omega) (λe=>?_)).trans ((heap_alloc_old _ _ (h:=(dK.1 y2).1)).trans y2);rcases HO.2 with ⟨rfl,-⟩|⟨g,cap,cur,rfl,-,hr,-⟩;cases e
    have e:J w.1=g:=eU e;rw[e,hr]at y2;simp only[oI,iL]at y2;exact absurd y2.2.1 Dd)
   go_roundw;exact⟨j+1,Oo,Gg,HE⟩;exact Im
  rw[fF hx]at a5;have HE:Hh (MsM r w W2 u7 (yN ps i es (j+1))/\W2.1[J w.1]?=Q (eZ #[Z p0 n0 c0,sZ b2 o2 (E ps) kp,Z p2 n2 c2] 97 (0,0))):=ay (by rw[a5];exact a8);go_wp2;go_roundw;exact⟨j+1,Oo,Gg,HE⟩;exact Im
 obtain rfl:j=n:=Oo;go_wp2;go_ret;exact⟨_,rfl,HX.1,HX.1.O⟩
def qIz{W:oX}{B:Nat}{v:oV}{l:LI}(h:oW W B 3 1 v (E l) (l.map ai)):PtI W v l:=by
 rcases h.2 with ⟨e,hn⟩|⟨g,cap,cur,rfl,-⟩;exact .inl ⟨e,dV.1 hn⟩;refine .inr ⟨g,0,cap,rfl,λj hj=>?_⟩;have:=h.cellAt j Oo;rw[cU,this,bK,gE hj,gdR hj];rfl
def qI0{W:oX}{B B1 B2 B3 be:Nat}{s1 s2:oV}{c:Ch}{es:List (LI×Nat)}{D:DataW Unit}(h1:oW W B1 3 1 s1 (E c.sh) (c.sh.map ai))(h2:oW W B2 3 1 s2 (E c.hd) (c.hd.map ai))(h3:En W B3 be c.iQ es D)(b1:B<=B1)(b2:B<=B2)(b3:B<=B3)(b4:B<=be)(hl:E c.sh<=1000/\E c.hd<=1000)(i1:∀y∈c.sh,0<=y/\y<6)(i2:∀y∈c.hd,0<=y/\y<6):Fz B (λX=>ChA X s1 s2 be c) W:=λW' a3=>
 ⟨qN (qD h1 λg hg=>a3 g (bM b1 (h1.lt g hg).1) (h1.lt g hg).2),qIz (qD h2 λg hg=>a3 g (bM b2 (h2.lt g hg).1) (h2.lt g hg).2),⟨B3,es,D,h3.A (a3 _ b4 h3.map.lt) λe he=>by
  have⟨ks,D',h4⟩:=h3.inner e he;exact a3 _ (bM b3 (h3.low e he)) h4.lt⟩,hl,i1,i2⟩
structure Snt(r B:Nat)(W:oX)(v:oV)(es:List Mg):Prop where
 z:oW W B 149 4 v (E es) (es.flatMap (mcl r))
 l:∀e∈es,∀X,(∀k,B<=k->k<J W.1->v.ownBlock≠Q k->X.1[k]?=W.1[k]?)->ChA X (Z e.a1 e.n1 e.k1) (Z e.a2 e.n2 e.k2) e.be e.ch
def Snt.mgs{r B:Nat}{W:oX}{v:oV}{es:List Mg}(h:Snt r B W v es):MgS r W v es:=by
 rcases h.z.2 with ⟨rfl,hn⟩|⟨g,cap,cur,rfl,-⟩;exact⟨wH,0,by rw[hn],Or.inl hn⟩;refine⟨_,cap,rfl,Or.inr ⟨g,0,rfl,λj hj=>?_⟩⟩;obtain⟨f0,f1,f2,f3⟩:=YC hj;rw[cU];refine⟨?_,?_,?_,?_,h.l _ (qz hj) W λ_ _ _ _=>rfl⟩;rw[h.z.cellAt _ Oo];exact f0;rw[h.z.cellAt _ Oo];exact f1;rw[h.z.cellAt _ Oo];exact f2;rw[h.z.cellAt _ Oo];exact f3
def Snt.zz{r B:Nat}{W W':oX}{v:oV}{es:List Mg}(h:Snt r B W v es)(hb:Bl W W'):Snt r B W' v es:=
 ⟨qB h.z hb,λe he X hX=>h.l e he X λk h1 h2 h3=>(hX k h1 (bN h2 hb.size) h3).trans (hb.block k h2)⟩
def Snt.push{r B g c:Nat}{W W2 W3:oX}{v:oV}{es:List Mg}{e:Mg}{o:Obj}(h:Snt r B W v es)(hB:B<=J W.1)(hb:Bl W W2)(he:Fz (J W.1) (λX=>ChA X (Z e.a1 e.n1 e.k1) (Z e.a2 e.n2 e.k2) e.be e.ch) W2)(a3:oW W3 B 149 4 (sZ g 0 (E es+1) c) (E es+1) (es.flatMap (mcl r)++mcl r e))(hg:(S W2 o).grownBy W3 v.ownBlock)(a4:v.ownBlock=Q g∨g=J (S W2 o).1):Snt r B W3 (sZ g 0 (E es+1) c) (es++[e]):=by
 have hs:=hb.size;have a8:J W2.1<=J W3.1:=by have:=hg.size;rw[aM]at this;omega
 rw[aM]at a4;refine⟨by rw[lA,lS,dM];simpa using a3,λx hx X hX=>?_⟩;have a5:∀k,B<=k->k<J W2.1->v.ownBlock≠Q k->X.1[k]?=W2.1[k]?:=λk h1 h2 h3=>(hX k h1 Oo (λe2=>by
  obtain rfl:g=k:=by simpa[Value.ownBlock]using e2
  rcases a4 with h4|h4;exact h3 h4;omega)).trans ((λk h1 h2=>zD hg h1 (Ne.symm h2)) k h2 h3)
 rcases cF.1 hx with h1|h1;exact h.l x h1 X λk h2 h3 h4=>(a5 k h2 Oo h4).trans (hb.block k h3);obtain rfl:=cI.1 h1;exact he X λk h2 h3=>a5 k Oo h3 λh4=>O1 ((λk hk=>(h.z.lt k hk).2) k h4)
def zg(ps:LI)(ch:Nat->Ch)(i:Nat):List Ch:=((wI i).filter λj=>oD (U ps j 0=(i:Int))).map ch
def qFm(ps:LI)(ch:Nat->Ch)(i:Nat):E (zg ps ch i)<=i:=by
 unfold zg;rw[lM];exact bM (dH _ _) (length_range▸eA)
structure MsH(r:Nat)(bt:List TbV)(ps hd hl:LI)(tl:List TbV)(ch:Nat->Ch)(fnd:Nat->Nat->LI->LI->Option Int)(wt:LI->TbV->Int):Prop where
 C:E ps=E bt
 few:E bt<=20
 par:∀i,i<E bt->∃q:Nat,U ps i 0=(q:Int)/\q<E bt/\(ch i).sh=shr (U bt i qA).e (U bt q qA).e
 ok:∀i,i<E bt->qW (U bt i qA)/\Wf (U bt i qA).x
 hed:∀i,i<E bt->(ch i).hd=shr (U bt i qA).e hd++hds (zg ps ch i) (E (zg ps ch i))
 wts:∀i,i<E bt->∀z∈(U bt i qA).x,∀t∈cN hl tl (i:Int) (E tl),∀M,RwM t.e t.x t.k (E t.x) M->M (xM t.e (xx (U bt i qA).e z))=Q (wt (xx (U bt i qA).e z) t)
 f0:∀i,i<E bt->∀z∈(U bt i qA).x,∀h,fnd i 0 (xx (U bt i qA).e z) h=X3 (λ_=>wH) (xM (shr (U bt i qA).e hd) (xx (U bt i qA).e z)) (K5 r ((cN hl tl (i:Int) (E tl)).map (wt (xx (U bt i qA).e z)))) h
 fj:∀i,i<E bt->∀z∈(U bt i qA).x,∀q,q<E (zg ps ch i)->∀M,JoM r (U (zg ps ch i) q zF).hd (fnd i q (xx (U bt i qA).e z)) ((U (zg ps ch i) q zF).iQ (xM (U (zg ps ch i) q zF).sh (xx (U bt i qA).e z))) (λ_ _=>True) M->∀h,fnd i (q+1) (xx (U bt i qA).e z) h=M h
 q:∀i,i<E bt->∀s a,(ch i).iQ s a=bl r (U bt i qA).e (ch i).sh (U bt i qA).x (fnd i (E (zg ps ch i))) (E (U bt i qA).x) s a
 ls:∀i,i<E bt->(E (ch i).sh<=1000/\E (ch i).hd<=1000)/\(∀y∈(ch i).sh,0<=y/\y<6)/\∀y∈(ch i).hd,0<=y/\y<6
 ky:∀i,i<E bt->∀z∈(U bt i qA).x,∀q,q<E (zg ps ch i)->∃y x,(U (zg ps ch i) q zF).iQ (xM (U (zg ps ch i) q zF).sh (xx (U bt i qA).e z)) y=Q x
 fn:∀i,i<E bt->∀z∈(U bt i qA).x,∀q,q<=E (zg ps ch i)->∀ks:LL,ks.Nodup->(∀a∈ks,∃x,fnd i q (xx (U bt i qA).e z) a=Q x)->E ks<=500000
 chs:∀i,i<E bt->∀(s:LI) (ks:LL),ks.Nodup->(∀a∈ks,∃x,(ch i).iQ s a=Q x)->E ks<=500000
 tls:∀i,i<E bt->∀n,n<=E (U bt i qA).x->∀(s:LI) (ks:LL),ks.Nodup->(∀a∈ks,∃x,bl r (U bt i qA).e (ch i).sh (U bt i qA).x (fnd i (E (zg ps ch i))) n s a=Q x)->E ks<=500000
section
variable {r:Nat} {bt:List TbV} {ps hd hl:LI} {tl:List TbV} {ch:Nat->Ch} {fnd:Nat->Nat->LI->LI->Option Int} {wt:LI->TbV->Int}
def MsH.ow(h:MsH r bt ps hd hl tl ch fnd wt){i:Nat}(hi:i<E bt):E (shr (U bt i qA).e hd)<=1000/\∀y∈shr (U bt i qA).e hd,0<=y/\y<6:=by
 obtain⟨⟨-,h1⟩,-,h2⟩:=h.ls i hi;rw[h.hed i hi]at h1 h2;exact⟨by rw[lA]at h1;omega,λy hy=>h2 y (dW _ hy)⟩
def MsH.kid(h:MsH r bt ps hd hl tl ch fnd wt){i:Nat}(hi:i<E bt):∀q,q<E (zg ps ch i)->∀(s:LI) (ks:LL),ks.Nodup->(∀a∈ks,∃x,(U (zg ps ch i) q zF).iQ s a=Q x)->E ks<=500000:=λq hq s ks h1 h2=>by
 have⟨j,hj,e⟩:=cC.1 (qz (d:=zF) hq);have a3:=cJ.1 (cK.1 hj).1;exact h.chs j Oo s _ h1 λa ha=>e▸h2 a ha
end
def fR{hl:LI}{tl:List TbV}{i:Int}:∀{j:Nat},j<=E tl->∀t∈cN hl tl i j,t∈tl
 |0,_,t,h=>by cases h
 |j+1,hj,t,h=>by
  unfold cN at h;split at h
  ·rcases cF.1 h with h|h;exact fR Oo t h;rw[cI.1 h];exact qz hj
  exact fR Oo t h
def qHX{ps:LI}{ch:Nat->Ch}{es:List Mg}{i:Nat}(hl:E es=i)(h:∀j,j<i->(U es j zZ).ch=ch j):(yN ps (i:Int) es (E es)).map Mg.ch=zg ps ch i:=by
 unfold yN zg;rw[hl,map_map];exact cV λj hj=>h j (cJ.1 (cK.1 hj).1)
def Vz:∀k,k<7->qb (upR k):=Dd
structure Trr(tl:List TbV)(k:Nat)(bs:LL)(ps:LI)(T:List TbV):Prop where
 vis:0<=zK tl (upR k)
 six:k<=6
 wf:∀t∈tl,Wf t.x
 few:E bs<=12
 asc:∀i,(U bs i []).Pairwise (·< ·)
 inb:∀i,∀v∈U bs i [],0<=v/\v<(k:Int)
 all:∀v:Int,0<=v->v<(k:Int)->∃i,i<E bs/\v∈U bs i []
 par:xH ps (E bs)
 rip:∀j,j<E bs->∀l,j<l->l<=E bs->∀v,v∈U bs j []->v∈U bs l []->v∈U bs (xO ps (E bs) j) []
 go:∃R,RdS (E bs) (λi=>U bs i []) R (AnJ tl) T/\∀F,(∀l,l<=E bs->(U bs l []).map F∈R l)↔AnJ tl F
def jV(bs:LL)(ps:LI)(T:List TbV):List TbV:=dnT (xO ps (E bs)) (E bs) (upT (xO ps (E bs)) T (E bs)) (E bs)
def qEf{k:Nat}{F:Int->Int}{v:Int}(h0:0<=v)(h1:v<k):U ((upR k).map F) v.toNat 0=F v:=by
 rw[gdR (by rw[lM,zO];omega),fB,<-gdR (d:=0) (by rw[zO];omega),qBO Oo,show((v.toNat:Nat):Int)=v by omega]
section
variable {tl:List TbV} {k:Nat} {bs:LL} {ps:LI} {T:List TbV}
def Trr.at(h:Trr tl k bs ps T){i:Nat}(hi:i<=E bs):OneT (U (jV bs ps T) i qA) (U bs i [])/\∀r,r∈(U (jV bs ps T) i qA).x↔∃f,AnJ tl f/\(U bs i []).map f=r:=by
 have⟨R,h1,h2⟩:=h.go;exact qIC h.asc (vC h.par) h.rip (λf=>(h2 f).1) h1 hi
def Trr.C(h:Trr tl k bs ps T):E (jV bs ps T)=E bs+1:=by
 have⟨R,h1,h2⟩:=h.go;unfold jV;rw[UU,XZ,h1.C]
def Trr.fit(h:Trr tl k bs ps T):qDx tl (upR k):=jz (xL h.vis).1 (uO k)
def Trr.M(h:Trr tl k bs ps T){F:Int->Int}(hF:AnJ tl F):(upR k).map F∈qO tl (upR k):=by
 rw[(xL h.vis).2];exact(vz h.fit F).2 hF
def Trr.val(h:Trr tl k bs ps T){F:Int->Int}(hF:AnJ tl F){v:Int}(h0:0<=v)(h1:v<k):-9223372036854775808<=F v/\F v<=9223372036854775807:=by
 have h3:=(xp.1 ((QH (xL h.vis).1).2.2)).symm.subset (uw.2 ⟨h0,h1⟩);unfold vrJ at h3;have⟨i,hi,h7,e⟩:=y7.1 h3;unfold qp at h7;have⟨t,ht,h8⟩:=any_eq_true.1 h7;exact h.wf t ht _ (hF t ht) _ (dF (e▸aN h8))
def Trr.fewB(h:Trr tl k bs ps T){X:LI}(hX:∀v∈X,0<=v/\v<(k:Int)){ks:LL}(hn:ks.Nodup)(hk:∀a∈ks,∃F,AnJ tl F/\a=ky X F):E ks<=10000:=by
 have h1:=kq (l:=qO tl (upR k)) (f:=λp=>ky X λv=>U p v.toNat 0) hn λa ha=>by
  obtain⟨F,hF,rfl⟩:=hk a ha;exact⟨_,h.M hF,kL λv hv=>(qEf (hX v hv).1 (hX v hv).2).symm⟩
 have h2:E (qO tl (upR k))<=10000:=(row_one h.vis (Vz k (O1 h.six))).few;omega
def Trr.fewA(h:Trr tl k bs ps T){X:LI}(hX:∀v∈X,0<=v/\v<(k:Int)){ks:LL}(hn:ks.Nodup)(hk:∀a∈ks,∃F,AnJ tl F/\a=ky X F):E ks<=500000:=bM (h.fewB hX hn hk) Dd
end
section
variable {ow:Nat->LI} {p:Nat->Nat}
def Qt{f:Nat->LI}(i:Nat):∀l:List Nat,E ((l.filter λc=>oD (i<=p c)).flatMap f)=E ((l.filter λc=>oD (p c=i)).flatMap f)+E ((l.filter λc=>oD (i+1<=p c)).flatMap f)
 |[]=>rfl
 |c::l=>by
  have ih:=Qt (f:=f) i l;rcases oE (p c) i with e|e|e;rw[filter_cons_of_neg Sy,filter_cons_of_neg Sy,filter_cons_of_neg Sy];exact ih;rw[filter_cons_of_pos Sy,filter_cons_of_pos Sy,filter_cons_of_neg Sy,dS,dS,lA,lA,ih];omega;rw[filter_cons_of_pos Sy,filter_cons_of_neg Sy,filter_cons_of_pos Sy,dS,dS,lA,lA,ih];omega
def qAJ{m:Nat}(hw:∀i,E (ow i)<=m):∀i,E (((wI i).filter λc=>oD (i<=p c)).flatMap (hdT ow p))<=m*i
 |0=>Ss
 |i+1=>by
  have ih:=qAJ hw i;rw[Qt i]at ih;rw[dQ,cZ,dM,lA];have h1:E (([i].filter λc=>oD (i+1<=p c)).flatMap (hdT ow p))<=E (hdT ow p i):=by
   by_cases e:i+1<=p i;rw[filter_cons_of_pos (by exact fD e)];simp;rw[filter_cons_of_neg (by simpa using e)];simp
  rw[kM i,lA]at h1;have:=hw i;unfold kids at h1;rw[Nat.mul_add,sV];omega
def qHY{m:Nat}(hw:∀i,E (ow i)<=m)(i:Nat):E (hdT ow p i)<=m*(i+1):=by
 have h1:=qAJ (p:=p) hw i;rw[Qt i]at h1;rw[kM i,lA,Nat.mul_add,sV];unfold kids;have:=hw i;omega
def qEg{P:Int->Prop}(hw:∀c,∀v∈ow c,P v)(i:Nat):∀v∈hdT ow p i,P v:=by
 induction i using Nat.strongRecOn with
 |_ i ih=>
  intro v hv;rw[kM i]at hv;rcases cF.1 hv with h|h;exact hw i v h;have⟨c,hc,h⟩:=mem_flatMap.1 h;exact ih c (ui.1 hc).1 v h
def qEh{a3:LI}{ch:Nat->Ch}{i:Nat}(h:∀j,j<i->U a3 j 0=(p j:Int)):zg a3 ch i=(kids p i).map ch:=by
 unfold zg kids;rw[filter_congr (q:=λc=>oD (p c=i)) λj hj=>?_];rw[h j (cJ.1 hj)];exact oK.2 ⟨λe=>Oo,λe=>Oo⟩
def qFn{ch:Nat->Ch}{l:List Nat}:hds (l.map ch) (E (l.map ch))=l.flatMap λc=>(ch c).hd:=by
 unfold hds;rw[take_of_length_le eA,flatMap_map]
end
def ddp:LL->LL
 |[]=>[]
 |a::l=>if a∈l then ddp l else a::ddp l
def fP{x:LI}:∀{l:LL},x∈ddp l↔x∈l
 |[]=>sJ
 |a::l=>by
  unfold ddp;split
  ·rename_i h;rw[fP (l:=l),cH];exact⟨.inr,λh2=>h2.elim (λe=>e ▸ h) id⟩
  rw[cH,cH,fP (l:=l)]
def fK:∀l:LL,(ddp l).Nodup
 |[]=>nodup_nil
 |a::l=>by
  unfold ddp;split;exact fK l;rename_i h;exact nodup_cons.2 ⟨λh2=>h (fP.1 h2),fK l⟩
def smA(r:Nat)(A:LL)(P:LI->Bool)(iU:LI)(g:(Int->Int)->Int):Option Int:=smR r ((ddp ((A.filter P).map λq=>ky iU (fr q))).map λa=>g (fr a))
section
variable {tl:List TbV} {k:Nat} {bs:LL} {ps:LI} {T:List TbV} {r:Nat}
def gI{F:Int->Int}{v:Int}(h:0<=v/\v<(k:Int)):fr ((upR k).map F) v=F v:=qEf h.1 h.2
def gJ{q:LI}(h:E q=k):(upR k).map (fr q)=q:=by
 refine ext_getElem (by rw[lM,zO,h]) λi h1 h2=>?_;rw[fB,<-gdR (d:=0) (by rw[zO];omega),qBO Oo];unfold fr;rw[show((i:Nat):Int).toNat=i by omega,gdR h2]
def Trr.lenA(h:Trr tl k bs ps T){q:LI}(hq:q∈qO tl (upR k)):E q=k:=by
 rw[(xL h.vis).2]at hq;rw[jx q hq,zO]
def Trr.fr(h:Trr tl k bs ps T){q:LI}(hq:q∈qO tl (upR k)):AnJ tl (fr q):=by
 refine(vz h.fit _).1 ?_;rw[gJ (h.lenA hq),<-(xL h.vis).2];exact hq
def gF(h:Trr tl k bs ps T){P:LI->Bool}{PF:(Int->Int)->Prop}{iU:LI}{g:(Int->Int)->Int}(hP:∀q,P q↔PF (Go.Proofs.YtfpjpngjikdaoaaGreat.fr q))(hi:∀F G,(∀v,0<=v/\v<(k:Int)->F v=G v)->PF F->PF G)(hU:∀v∈iU,0<=v/\v<(k:Int)):Tel r (AnJ tl) PF iU g (smA r (qO tl (upR k)) P iU g):=by
 refine⟨_,fK _,λa=>?_,rfl⟩;rw[fP,cC];constructor;rintro⟨q,hq,rfl⟩;have⟨h1,h2⟩:=cK.1 hq;exact⟨_,h.fr h1,(hP q).1 h2,rfl⟩;rintro⟨F,hF,hp,rfl⟩;exact⟨(upR k).map F,cK.2 ⟨h.M hF,(hP _).2 (hi F _ (λv hv=>(gI hv).symm) hp)⟩,kL λv hv=>gI (hU v hv)⟩
end
def wtZ(t:TbV)(F:Int->Int):Int:=U t.k (t.x.idxOf (t.e.map F)) 0
def fe{t:TbV}{F G:Int->Int}(h:∀v∈t.e,F v=G v):wtZ t F=wtZ t G:=by
 unfold wtZ;rw[cV h]
def zE(hl:LI)(n i:Nat):LI:=((wI n).filter λj=>oD (U hl j 0=(i:Int))).map Int.ofNat
def fQ(hl:LI)(tl:List TbV)(i:Nat):∀n,cN hl tl (i:Int) n=(zE hl n i).map λj=>U tl j.toNat qA
 |0=>rfl
 |n+1=>by
  unfold cN zE;rw[dQ,cZ,mA,mA];by_cases e:U hl n 0=(i:Int);rw[fE e,filter_cons_of_pos (by exact fD e),fQ hl tl i n];rfl;rw[fF e,filter_cons_of_neg (by simpa using e),fQ hl tl i n];simp[zE]
def ck{hl:LI}{n i:Nat}{j:Int}:j∈zE hl n i↔∃q:Nat,j=(q:Int)/\q<n/\U hl q 0=(i:Int):=by
 unfold zE;rw[cC];constructor;rintro⟨q,h,rfl⟩;have⟨h1,h2⟩:=cK.1 h;exact⟨q,rfl,cJ.1 h1,aN h2⟩;rintro⟨q,rfl,h1,h2⟩;exact⟨q,cK.2 ⟨cJ.2 h1,fD h2⟩,rfl⟩
def HmO(hl:LI)(tl:List TbV)(bs:LL):Prop:=∀j,j<E tl->∃q:Nat,U hl j 0=(q:Int)/\q<=E bs/\∀v∈(U tl j qA).e,v∈U bs q []
def wpr(r:Nat)(tl:List TbV)(js:LI)(F:Int->Int):Int:=prZ r (js.map λj=>wor r (wtZ (U tl j.toNat qA) F))
def gL{r:Nat}{tl:List TbV}{a b:LI}{F:Int->Int}:wpr r tl (a++b) F=TT r (wpr r tl a F) (wpr r tl b F):=by
 unfold wpr;rw[mA,gT]
def du{r:Nat}{tl:List TbV}{js:LI}{F G:Int->Int}(h:∀j∈js,∀v∈(U tl j.toNat qA).e,F v=G v):wpr r tl js F=wpr r tl js G:=by
 unfold wpr;rw[cV λj hj=>by rw[fe (h j hj)]]
def fg(r:Nat)(xs:LI):K5 r xs=wrap64 (prZ r (xs.map (wor r))):=by
 have key:∀(xs:LI) (z:Int),xs.foldl (λz x=>tim r z (wor r x)) (wrap64 z)=wrap64 (TT r z (prZ r (xs.map (wor r)))):=by
  intro xs;induction xs with
  |nil=>
   intro z;show wrap64 z=wrap64 (TT r z (onr r));rw[dv,fw]
  |cons x xs ih=>
   intro z;show xs.foldl _ (tim r (wrap64 z) (wor r x))=wrap64 (TT r z (TT r (wor r x) (prZ r (xs.map (wor r)))));have e:tim r (wrap64 z) (wor r x)=wrap64 (TT r z (wor r x)):=by
    unfold tim;have⟨c,hc⟩:=dx z;refine fZ ?_;rw[hc];unfold TT;split;exact⟨c,Oo⟩;exact⟨c*wor r x,Rr⟩
   rw[e,ih,fG]
 have h:=key xs (onr r);rw[fw]at h;unfold K5;rw[<-h];congr 1;unfold onr;split <;> exact(df Dd).symm
section
variable {u h0:LI} {f:Nat->LI} {l:List Nat}
def fm(iU:Nat->LI)(hU:∀j,j<E l->iU j=f (U l j 0)):∀{j},j<=E l->usF u iU j=u++(l.take j).flatMap f
 |0,_=>by unfold usF;simp
 |j+1,hj=>by
  show usF u iU j++iU j=_;rw[fm iU hU (j:=j) Oo,hU j hj,tA,gE hj,dM,gdR hj];simp
def fo{r:Nat}{tl:List TbV}{F:Int->Int}(g:Nat->(Int->Int)->Int)(hg:∀j,j<E l->g j F=wpr r tl (f (U l j 0)) F):∀{j},j<=E l->gwF r (wpr r tl h0) g j F=wpr r tl (h0++(l.take j).flatMap f) F
 |0,_=>by show wpr r tl h0 F=_;simp
 |j+1,hj=>by
  show TT r (gwF r (wpr r tl h0) g j F) (g j F)=_;rw[fo g hg (j:=j) Oo,hg j hj,<-gL,tA,gE hj,dM,gdR hj];simp
end
def kz{ps:LI}{n:Nat}(h:xH ps n):E ps=n:=by
 unfold xH at h;rw[bV,dE]at h;have:=h.1;omega
def qEj{bs:LL}{ps:LI}(hp:xH ps (E bs)){i:Nat}(hi:i<E bs):U (orT (E bs:Int) ps++[(E bs:Int)]) i 0=(xO ps (E bs) i:Int):=by
 have hl:=kz hp;rw[gD,aL (by rw[vB];omega)];unfold orT xO;rw[bK,gE Oo,<-gdR (d:=0) Oo];show(if U ps i 0<0 then (E bs:Int) else U ps i 0)=_;by_cases e:U ps i 0<0;rw[fE e,fE e];rw[fF e,fF e];omega
