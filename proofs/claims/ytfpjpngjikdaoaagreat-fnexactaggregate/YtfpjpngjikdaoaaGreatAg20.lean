import Derived.Test.YtfpjpngjikdaoaaGreatAg07
import Derived.Test.YtfpjpngjikdaoaaGreatAg16
import Derived.Test.YtfpjpngjikdaoaaGreatAg14
import Derived.Test.YtfpjpngjikdaoaaGreatAg09
import Derived.Test.YtfpjpngjikdaoaaGreatAg15
import Derived.Test.YtfpjpngjikdaoaaGreatAg13
set_option maxHeartbeats 40000000
set_option maxRecDepth 1000000
set_option linter.defProp false
open List Go.World
open List renaming length->E,getD->U
open Array renaming size->J
open Go.World renaming alloc->S,cell?->eQ,setCell->sW,ownsRow->oW
open Go.Value renaming slice->Z,agg->aQ,bool->oB
open Go.Obj renaming cells->eZ
open Go.Ending renaming returned->rE
open Option renaming some->Q
open Go renaming World->oX,Value->oV
open Bool renaming false->nF
open Decidable renaming decide->oD
namespace Go.Proofs.YtfpjpngjikdaoaaGreat
open Go.Proofs.Tryz Go.RowKit
def lP(l:LI):K5 1 l=1:=by
 have key:∀l:LI,l.foldl (λz x=>tim 1 z (wor 1 x)) 1=1:=by
  intro l;induction l with
  |nil=>rfl
  |cons x l ih=>
   show l.foldl _ (tim 1 1 (wor 1 x))=1;rw[show tim 1 1 (wor 1 x)=1 by simp[tim,wor,wrap64]];exact ih
 exact key l
def JW{r:Nat}(hr:X4 r)(w:oX)(av:Option Addr)(nv cv:Nat)(vw:oV)(l:LI)(h:IS w vw l)(hl:E l<=1000):
 Cl 48 #[aQ #[Z av nv cv,vw],ai (r:Int)] w λe w'=>e=rE (ai (K5 r l))/\Bl w w':=by
 obtain⟨a,cap,rfl,hc⟩:=h;obtain⟨n,hn⟩:=Ex (E l);rw[<-hn]at hc hl ⊢;obtain⟨W1,a4⟩:=Ex (S w (eZ #[Z av nv cv,Z a n cap] 82));have a6:Bl w W1:=by rw[a4];exact(bJ _ _).alloc (nR _) _
 have t1:eQ W1 (az (J w.1) 1)=Q (Z a n cap):=by rw[a4,bE _ _ _ _ rfl];rfl
 change Hh _ at hc a6 hn;obtain⟨q,hq⟩:=Ex r;rw[<-hq];rcases hr with rfl|rfl|rfl
 ·replace hq:q=1:=hq;subst hq;rw[lP];go_enter func48,ntmps48;go_upto_region 1 with fail;rw[<-a4];clear a4;go_wp2;go_loopw [5,6,12] (λx y t wr=>∃(j:Nat) (p s:Int),j<=n/\t=ai j/\x=ai p/\y=ai s/\wr=W1) (λ_ _ t _=>n-(intOf t).toNat);exact⟨0,1,0,eC,rfl,rfl,rfl,rfl⟩;obtain⟨j,p,s,hj,rfl,rfl,rfl,e⟩:=hrel;subst e;by_cases a5:j<n
  ·have i1:(j:Int)<n:=Oo;rcases hc.o with h0|⟨b,o,rfl,a3⟩;omega;have c1:=qF a6 (a3 j a5);clear a3;go_wp2;go_roundw;exact⟨j+1,_,_,Oo,Gg,rfl,rfl,trivial⟩;exact Im
  obtain rfl:j=n:=Oo;have i1:=aY j;go_wp2;go_ret;exact⟨rfl,a6⟩
 all_goals
  first
   |(replace hq:q=2:=hq;subst hq)
   |(replace hq:q=3:=hq;subst hq)
  go_enter func48,ntmps48
  go_upto_region 1 with fail
  rw[<-a4]
  clear a4
  go_wp2
  go_loopw [5,6,12] (λx y t wr=>∃(j:Nat) (p s:Int),j<=n/\t=ai j/\x=ai p/\y=ai s/\wr=W1/\Hh (p=K5 2 (l.take j)/\s=K5 3 (l.take j))) (λ_ _ t _=>n-(intOf t).toNat);exact⟨0,1,0,eC,rfl,rfl,rfl,rfl,ay ⟨rfl,rfl⟩⟩
  obtain⟨j,p,s,hj,rfl,rfl,rfl,e,HV⟩:=hrel
  subst e
  by_cases a5:j<n
  ·have i1:(j:Int)<n:=Oo
   rcases hc.o with h0|⟨b,o,rfl,a3⟩;omega
   have c1:=qF a6 (a3 j a5)
   have a9:Hh (wrap64 (p*U l j 0)=K5 2 (l.take (j+1))/\wrap64 (s+U l j 0)=K5 3 (l.take (j+1))):=ay (by
    have a7:j<E l:=hn.o▸a5
    have e:l.take (j+1)=l.take j++[U l j 0]:=by rw[tA,gE a7,gdR a7];rfl
    rw[e,fN,fN,<-HV.o.1,<-HV.o.2];unfold tim wor;exact⟨by rw[fF Dd,fF Dd],by rw[fE rfl,fF Dd]⟩)
   generalize U l j 0=x at *
   go_wp2
   go_roundw;exact⟨j+1,_,_,Oo,Gg,rfl,rfl,trivial,a9⟩;exact Im
  obtain rfl:j=n:=Oo
  have hv:=HV.o
  rw[hn.o,tL]at hv
  have a8:=ay hv
  go_wp2
  go_ret
  first
   |exact⟨by rw[<-a8.o.1];rfl,a6⟩
   |exact⟨by rw[<-a8.o.2];rfl,a6⟩
def qAR{r:Nat}(hr:X4 r)(w:oX)(x y:Int):Cl 49 #[ai x,ai y,ai (r:Int)] w λe w'=>e=rE (ai (plu r x y))/\w'=w:=by
 rcases hr with rfl|rfl|rfl
 ·change Cl 49 #[ai x,ai y,ai 1] w _;go_enter func49,ntmps49;go_wp2;go_ret;exact⟨rfl,rfl⟩
 ·change Cl 49 #[ai x,ai y,ai 2] w _;go_enter func49,ntmps49;go_wp2;go_ret;exact⟨rfl,rfl⟩
 change Cl 49 #[ai x,ai y,ai 3] w _;by_cases h:x<y
 ·have e:plu 3 x y=x:=by unfold plu;rw[fE rfl];omega
  rw[e];go_enter func49,ntmps49;go_wp2;go_ret;exact⟨rfl,rfl⟩
 have e:plu 3 x y=y:=by unfold plu;rw[fE rfl];omega
 rw[e];go_enter func49,ntmps49;go_wp2;go_ret;exact⟨rfl,rfl⟩
def SL.nodup{l:LL}(h:SL l):l.Nodup:=h.imp λ{a b} h e=>by
 subst e;rw[zj]at h;omega
structure Kd(q:Nat->oV->Prop)(t:TypeId)(n:Nat)(W:oX)(p:Nat):Prop where
 ex:∃xs:Array oV,W.1[p]?=Q (eZ xs t (0,0))/\∀j,j<n->∃u,xs[j]?=Q u/\q j u
section
variable {q q':Nat->oV->Prop} {t t':TypeId} {n p p':Nat} {W W':oX} {u:oV} {j:Nat}
def Kd.at(h:Kd q t n W p)(hj:j<n):∃u,eQ W (az p j)=Q u/\q j u:=by
 have⟨xs,h1,h2⟩:=h.ex;have⟨u,h3,h4⟩:=h2 j hj;exact⟨u,by rw[eI h1];exact h3,h4⟩
def Kd.L(h:Kd q t n W p)(j:Nat):W.frozen? (az p j)=false:=by
 obtain⟨xs,h1,-⟩:=h.ex;unfold World.frozen?;rw[h1];simp
def Kd.to(h:Kd q t n W p)(hb:W'.1[p]?=W.1[p]?):Kd q t n W' p:=by
 have⟨xs,h1,h2⟩:=h.ex;exact⟨xs,hb.trans h1,h2⟩
def Kd.lt(h:Kd q t n W p):p<J W.1:=by
 obtain⟨xs,h1,-⟩:=h.ex;rcases dL p (J W.1) with h2|h2;exact h2;rw[dO h2]at h1;cases h1
def Kd.setL(h:Kd q t n W p)(hu:q' j u)(ho:∀i v,i<n->i≠j->q i v->q' i v):Kd q' t n (sW W (az p j) u) p:=by
 have⟨xs,h1,h2⟩:=h.ex;refine⟨_,eN h1,λi hi=>?_⟩;have⟨v,h3,h4⟩:=h2 i hi;by_cases e:j=i
 ·subst e;have a3:j<xs.size:=by
   rcases dL j xs.size with h5|h5;exact h5;rw[dO h5]at h3;cases h3
  exact⟨u,by simp[a3],hu⟩
 exact⟨v,by simp[e];exact h3,ho i v hi (λe2=>e e2.symm) h4⟩
def Kd.set'(h:Kd q t n W p)(hp:p≠p'):Kd q t n (sW W (az p' j) u) p:=h.to (heap_setCell_other _ _ _ _ hp)
end
def mI{R:LL}{q:LI}{i:Nat}(h:i=R.idxOf q)(hi:i<E R):U R i []=q:=by
 subst h;rw[gdR hi];exact getElem_idxOf _
def gvN(r:Nat)(tl:List TbV)(hd:LI)(rows:LL):Nat->LI->Option Int
 |0=>λ_=>none
 |i+1=>X3 (gvN r tl hd rows i) (qM hd (U rows i [])) (bu r (gvN r tl hd rows i) (qM hd (U rows i [])) (K5 r (wgL tl (U rows i []))))
def inQ(R:LL)(g:LI->Option Int)(j:Nat)(u:oV):Prop:=u=ai ((g (U R j [])).getD 0)
def boQ(R:LL)(g:LI->Option Int)(j:Nat)(u:oV):Prop:=u=oB (g (U R j [])).isSome
def Vx{r:Nat}(hr:X4 r)(w:oX)(vt vh:oV)(kn:Nat)(tl:List TbV)(hd:LI)(h:ITsC w vt tl)(hk:kn<=6)(hl:E tl<=7)(h8:okJ tl (upR kn))(hh:IS w vh hd)(n8:E hd<=6)(k3:∀y∈hd,0<=y/\y<(kn:Int)):
 Cl 28 #[ai (kn:Int),vt,vh,ai (r:Int)] w λe w'=>∃v vv vb,e=rE (.tuple #[v,vv,vb])/\ISS w' v (srt ((qO tl (upR kn)).map (qM hd)))/\IS w' vv ((srt ((qO tl (upR kn)).map (qM hd))).map λq=>(gvN r tl hd (qO tl (upR kn)) (E (qO tl (upR kn))) q).getD 0)/\Bl w w':=by
 have⟨i0,hi,q4,q5,q6⟩:=aX Tryz.infoInt;have KA:Hh (Cl 44 #[ai (kn:Int),vt] w λe w'=>∃(a:Option Addr) (c:Nat) (b:Bool),e=rE (.tuple #[Z a (E (qO tl (upR kn))) c,oB b])/\AnS tl w' (Z a (E (qO tl (upR kn))) c) (qO tl (upR kn))/\Bl w w'):=ay (by
  apply (VZ w h hk hl h8).mono;rintro e w' ⟨v,rfl,hA,hb⟩;obtain⟨a,c,e0,-⟩:=id hA;subst e0;exact⟨a,c,_,rfl,hA,hb⟩)
 have h9:Hh (E (qO tl (upR kn))<=10000):=ay y8.1;have k4:Hh (∀p∈qO tl (upR kn),∀y∈hd,0<=y/\y<(E p:Int)):=ay λp hp y hy=>by
  have h1:E p=kn:=by
   rw[(vY h8).1]at hp;split at hp;rw[jx p hp,zO];cases hp
  rw[h1];exact k3 y hy
 obtain⟨q7,ct,rfl,-⟩:=h;obtain⟨ah,ch,rfl,o6⟩:=id hh;have HU:=ay hh;generalize qO tl (upR kn)=rows at *;clear o6 hh k3 h8;have⟨nr,i4⟩:=Ex (E rows);change Hh _ at i4;rw[<-i4]at KA h9;generalize hnt:E tl=nt at *;change Hh _ at hnt;go_enter func28,ntmps28;go_upto_region 2 with (first|(go_at_call 44;apply KA.o.mono;rintro e w4 ⟨aA,cA,bf,rfl,k5,i5⟩)|fail);change Hh _ at i5 k5;have k9:=ay (HU.o.zz i5);clear KA HU;have l0:Hh (∀i,i<nr->∃(bA oA:Nat) (v0:oV) (aw:Option Addr) (nw cw:Nat),aA=Q (az bA oA)/\∀W,Bl w4 W->aC W bA (oA+i*2) v0/\eQ W (az bA (oA+i*2+1))=Q (Z aw nw cw)/\IS W v0 (U rows i [])/\IS W (Z aw nw cw) (wgL tl (U rows i []))):=ay λi hi=>by
  have⟨a,c,e,hh⟩:=k5.o;simp only[vI]at e;obtain⟨rfl,-,-⟩:=e;rcases hh with h0|⟨bA,oA,rfl,hh⟩;have:=i4.o;omega;have⟨v0,aw,nw,cw,c0,c1,h2,h3⟩:=hh i (by rw[<-i4.o];exact hi);exact⟨bA,oA,v0,aw,nw,cw,rfl,λW hW=>⟨qF hW c0,qF hW c1,h2.zz hW,h3.zz hW⟩⟩
 have f9:Hh (∀i,i<nr->(rows.take (i+1)).map (qM hd)=(rows.take i).map (qM hd)++[qM hd (U rows i [])]/\E ((rows.take i).map (qM hd))=i/\U rows i []∈rows):=ay λi hi=>⟨by rw[tA,gE (by rw[<-i4.o];exact hi),gdR (by rw[<-i4.o];exact hi),mA];rfl,by rw[lM,bZ,<-i4.o];omega,qz (by rw[<-i4.o];exact hi)⟩;have l1:Hh ((rows.take nr).map (qM hd)=rows.map (qM hd)):=ay (by rw[i4.o,tL]);have KP:Hh (∀W i u0 aw nw cw,i<nr->IS W u0 (U rows i [])->Bl w4 W->Cl 45 #[aQ #[u0,Z aw nw cw],Z ah (E hd) ch] W λe w'=>∃v,e=rE v/\oW w' (J W.1) 3 1 v (E hd) ((qM hd (U rows i [])).map ai)/\Bl W w'):=ay λW i u0 aw nw cw hi hu hW=>qBP W hu ⟨_,_,_,rfl⟩ (k9.o.zz hW) Oo (k4 _ (f9 i hi).2.2);clear k4 k9 k5;have⟨W6,i6⟩:=Ex (S w4 (eZ #[] 24));have i7:Hh (Bl w4 W6/\RQ W6 (J w4.1) (sZ (J w4.1) 0 0 0) [] []):=ay (by
  rw[i6];exact⟨aK,oM _ _ 0 eA Dd rfl,rfl,λi hi=>by simp at hi,λi j _ hj=>by simp at hj⟩)
 have⟨lh,i8⟩:=Ex (E hd);change Hh _ at i8;rw[<-i8]at KP n8 ⊢;go_upto_region 3 with fail;rw[<-i6];clear i6;go_wp2;go_loopw [13,31] (λo8 t wx=>∃(i:Nat) (vo:oV),i<=nr/\t=ai i/\vo=o8/\Hh (∃uo,Bl w4 wx/\RQ wx (J w4.1) vo uo ((rows.take i).map (qM hd)))) (λ_ t _=>nr-(intOf t).toNat);exact⟨0,_,eC,rfl,rfl,ay ⟨[],i7.1,i7.2⟩⟩;clear i7;obtain⟨i,vo,l2,rfl,rfl,l3⟩:=hrel;have⟨uo,l4,l5⟩:=l3.o;change Hh _ at l4 l5;clear l3;by_cases a5:i<nr
 ·have i2:=aV a5;have⟨bA,oA,u0,aw,nw,cw,ea,d9⟩:=l0 i a5;subst ea;obtain⟨c0,c1,c9,-⟩:=d9 _ l4;obtain⟨l6,l7,-⟩:=f9 i a5;change Hh _ at l6;have⟨W7,a7⟩:=Ex (S wr (eZ #[u0,Z aw nw cw] 82));have a9:Bl wr W7:=by rw[a7];exact(bJ _ _).alloc (nR _) _
  have b1:Hh (Bx2 82 W7 (J wr.1) u0 (Z aw nw cw)):=ay (by rw[a7];exact Bx2.zw _ _ _ _);have e1:=ay (KP _ i _ aw nw cw a5 (c9.zz a9) (bt l4 a9));have d2:=ay a9;obtain⟨g5,g6,i9,-⟩:=id c9;generalize hpp:qM hd (U rows i [])=pp at *;have b9:E pp=lh:=by rw[<-hpp,vd,i8.o]
  have e2:=ay b9;generalize E (U rows i [])=lr0 at *;subst i9;clear d9 c9 a9 hpp b9 KP;go_upto_region 6 with fail;rw[<-a7];clear a7 c0 c1;have d0:=b1.o.c0;have d1:=b1.o.c1;go_wp2_with fail;apply e1.o.mono;rintro e w8 ⟨v8,rfl,c7,d7⟩;have d3:Bl wr w8:=bt d2 d7;have j0:=ay (l5.o.zz d3);have b7:=ay (bt l4 d3);have l8:=ay (qE c7 (bM l4.o.size d2.o.size));have l9:Hh (∀q,q<E ((rows.take i).map (qM hd))->∀g,(U uo q undef).ownBlock=Q g->v8.ownBlock≠Q g):=ay λq hq g h1 h2=>by
   have z1:=((l5.o.l q hq).lt g h1).2;have z2:=(c7.lt g h2).1;have z3:=d2.o.size;omega
  have⟨a8,k8,e8⟩:=qG c7;subst e8;have p2:=b7.o.size
  have j1:=ay (by have:=j0.o.z;rwa[l7]at this);have m1:=h9.o;clear c7 d7 d3 e1 l5 b1 d2 d0 d1;go_wp2_with (first|(at_builtin;refine apL rfl rfl underlying23 Tryz.infoIS (j1.o.alloc _) rfl rfl (qH _ _ _) Sy ?_;intro g9 p3 w9 e3 b8 m3 m4)|fail);have HN:Hh (∃p4,Bl w4 w9/\RQ w9 (J w4.1) (sZ g9 0 (i+1) p3) p4 ((rows.take (i+1)).map (qM hd))):=ay ⟨_,(b7.o.alloc p2 _).grown b8 Sy (λq hq=>(j1.o.lt q hq).1),by rw[l6.o];exact j0.o.P (by rw[e2.o];exact l8) l9 (by rw[l7];exact e3) b8⟩;clear e3 b8 m3 m4 j0 l8 l9 j1;go_roundw
  case rel=>first|exact⟨i+1,_,Oo,Gg,rfl,HN⟩|((repeat apply oJ);exact⟨⟨i+1,_,Oo,Gg,rfl,HN⟩,rfl⟩)
  case measure=>exact Im
 obtain rfl:nr=i:=Oo;have i2:=aY nr;rw[l1.o]at l5;have m1:=h9.o;have g7:Hh (E (rows.map (qM hd))=nr):=ay (by rw[lM,i4.o]);have KS:Hh (Cl 46 #[vo] wr λe w'=>∃(ar:Option Addr) (cr:Nat),e=rE (Z ar (E (srt (rows.map (qM hd)))) cr)/\ISSc w' (Z ar (E (srt (rows.map (qM hd)))) cr) (srt (rows.map (qM hd)))/\Bl wr w'):=ay (by
  refine(ZQ _ _ _ _ (rows.map (qM hd)) eA eB l5.o.rsx (by rw[g7.o];omega) (λr hr=>?_)).mono ?_;obtain⟨q,-,rfl⟩:=cC.1 hr;rw[vd,<-i8.o];omega;rintro e w' ⟨v',q8,rfl,hR,-,hb⟩;have hF:=hR.issc hb;obtain⟨ar,cr,e0,-⟩:=id hF;subst e0;exact⟨ar,cr,rfl,hF,hb⟩)
 have j2:Hh (E (srt (rows.map (qM hd)))<=10000):=ay (by have h1:=yK _ (rows.map (qM hd)) eA;have h2:=g7.o;omega);have⟨q9,r3,m5⟩:=l5.o.sl;rw[g7.o]at m5;subst m5;have j3:Hh (∀i,i<nr->qM hd (U rows i [])∈srt (rows.map (qM hd))):=ay λi hi=>((zQ _ _ eA).2 _).2 (dF (f9 i hi).2.2);have d8:Hh (SL (srt (rows.map (qM hd)))/\∀r∈srt (rows.map (qM hd)),E r=lh):=ay ⟨(zQ _ _ eA).1,λr hr=>by
  obtain⟨q,-,rfl⟩:=cC.1 (((zQ _ _ eA).2 _).1 hr);rw[vd,i8.o]⟩
 have⟨RR,j4⟩:=Ex (srt (rows.map (qM hd)));rw[<-j4]at KS j2 j3 d8;have m6:=ay j4;clear j4;have⟨n9,j5⟩:=Ex (E RR);have d4:=ay j5;rw[<-j5]at KS j2;clear j5 l5 g7 f9 l1;have r4:=j2.o;go_upto_region 9 with (first|(go_at_call 46;apply KS.o.mono;rintro e a3 ⟨ar,cr,rfl,h4,h5⟩)|fail);have h6:=ay h4;have e4:=ay (bt l4 h5);clear h4 h5 KS;have q3:J w.1<=a3.1.size:=bM i5.o.size e4.o.size;have p5:=run_make_row' 24 3 (ai 0) 8 underlying24 Kl rfl .i64 .i64 n9 Oo Oo;have p6:=run_make_row' 84 4 (oB nF) 1 underlying84 Kl rfl .i64 .i64 n9 Oo Oo;have⟨j6,e5⟩:=Ex ((a3.alloc (eZ (madeCells #[ai 0] n9) 3)).alloc (eZ (madeCells #[oB nF] n9) 4));have m7:Hh (Bl a3 j6/\Kd (inQ RR (gvN r tl hd rows 0)) 3 n9 j6 a3.1.size/\Kd (boQ RR (gvN r tl hd rows 0)) 4 n9 j6 (a3.1.size+1)):=ay (by
  rw[e5];refine⟨uP (uP eB _) _,⟨_,((aK).block _ Ss).trans (dZ _ _),λj hj=>⟨_,Qu hj,rfl⟩⟩,⟨_,by have:=dZ (a3.alloc (eZ (madeCells #[ai 0] n9) 3)) (eZ (madeCells #[oB nF] n9) 4);rwa[aM]at this,λj hj=>⟨oB nF,Qu hj,rfl⟩⟩⟩)
 go_upto_region 11 with fail;rw[<-e5];clear e5 p5 p6;go_wp2_with fail;clear l4;generalize wr=wq at *;go_loopw [52] (λt wx=>∃(i:Nat),i<=nr/\t=ai i/\Hh (Bl a3 wx/\Kd (inQ RR (gvN r tl hd rows i)) 3 n9 wx a3.1.size/\Kd (boQ RR (gvN r tl hd rows i)) 4 n9 wx (a3.1.size+1))) (mZ nr);exact⟨0,eC,rfl,m7⟩;clear m7;obtain⟨i,l2,rfl,HT⟩:=hrel;by_cases a5:i<nr
 ·have i2:=aV a5;have⟨bA,oA,u0,aw,nw,cw,ea,d9⟩:=l0 i a5;subst ea;have m8:Hh (Bl w4 wr):=ay (bt e4 HT.1);have⟨c0,c1,c9,m9⟩:=d9 _ m8;have⟨W7,a7⟩:=Ex (S wr (eZ #[u0,Z aw nw cw] 82));have a9:Bl wr W7:=by rw[a7];exact(bJ _ _).alloc (nR _) _
  have b1:Hh (Bx2 82 W7 (J wr.1) u0 (Z aw nw cw)):=ay (by rw[a7];exact Bx2.zw _ _ _ _);have e1:=ay (KP _ i _ aw nw cw a5 (c9.zz a9) (bt m8 a9));have d2:=ay a9;have p7:=ay m9;have p8:Hh (E (wgL tl (U rows i []))<=1000):=ay (by unfold wgL;rw[lM,hnt.o];omega);have p9:=ay (j3 i a5);have n3:Hh (gvN r tl hd rows (i+1)=X3 (gvN r tl hd rows i) (qM hd (U rows i [])) (bu r (gvN r tl hd rows i) (qM hd (U rows i [])) (K5 r (wgL tl (U rows i []))))):=rfl;obtain⟨g5,g6,i9,-⟩:=id c9;have b9:E (qM hd (U rows i []))=lh:=by rw[vd,i8.o]
  have e2:=ay b9;generalize qM hd (U rows i [])=pp,wgL tl (U rows i [])=lw,E (U rows i [])=lr0 at *;subst i9;clear d9 c9 m9 a9 b9 KP j3;go_upto_region 14 with fail;rw[<-a7];clear a7 c0 c1;have d0:=b1.o.c0;have d1:=b1.o.c1;go_wp2_with fail;apply e1.o.mono;rintro e w8 ⟨v8,rfl,c7,d7⟩;have d3:Bl wr w8:=bt d2 d7;have b7:Hh (Bl a3 w8/\Bl wr w8):=⟨bt HT.1 d3,d3⟩;have e6:Hh (Bx2 82 w8 (J wr.1) (Z g5 lr0 g6) (Z aw nw cw)):=b1.o.at d7 b1.o.lt;have⟨a8,k8,e8⟩:=qG c7;subst e8;have n4:Hh (Cl 47 #[Z ar n9 cr,Z a8 lh k8] w8 λe w'=>∃kk:Nat,e=rE (ai kk)/\(kk<n9/\Hh (kk=RR.idxOf pp))/\Bl w8 w'):=(by
   have h2:=qN (l:=pp) (by rw[e2.o];exact c7);refine(uR _ _ _ (h6.o.zz b7.o.1) h2 d8.o.1 (by rw[<-d4.o];omega) (λr hr=>?_)).mono ?_;have:=d8.2 r hr;have:=e2.o;omega;rintro e w' ⟨kk,rfl,q0,d,rfl⟩;have n5:=qG4 d8.1 p9 (λr hr=>by rw[e2.o];exact d8.2 r hr) q0;exact⟨kk,rfl,⟨by rw[d4.o];exact n5.2,ay n5.1⟩,below_drewN eB d⟩)
  have n6:Hh (∀W,Bl w8 W->Kd (inQ RR (gvN r tl hd rows i)) 3 n9 W a3.1.size/\Kd (boQ RR (gvN r tl hd rows i)) 4 n9 W (a3.1.size+1)):=λW hW=>⟨HT.2.1.to ((bt b7.2 hW).block _ HT.2.1.lt),HT.2.2.to ((bt b7.2 hW).block _ HT.2.2.lt)⟩;clear c7 d7 d3 e1 b1 d2 d0 d1;go_upto_region 16 with (first|(go_at_call 47;apply n4.o.mono;rintro e w9 ⟨kk,rfl,⟨e7,q1⟩,e9⟩;have d0:=(e6.o.at e9 e6.o.lt).c0;have d1:=(e6.o.at e9 e6.o.lt).c1)|(go_at_call 48;apply ((λW hW=>JW hr W _ _ _ _ _ (p7.o.zz (bt b7.2 hW)) p8) _ e9).mono;rintro e a4 ⟨rfl,h7⟩)|fail);have f7:=bt e9 h7;have⟨K1,K2⟩:=n6 _ f7;have g8:U RR kk []=pp:=mI q1 (by rw[<-d4.o];exact e7);have f8:∀j,j<n9->j≠kk->U RR j []≠pp:=λj hj d5 e=>d5 (by
   rw[<-g8,gdR (by rw[<-d4.o];exact hj),gdR (by rw[<-d4.o];exact e7)]at e;exact(getElem_inj d8.1.nodup).1 e)
  obtain⟨-,s1,rfl⟩:=K1.at e7;obtain⟨-,s2,rfl⟩:=K2.at e7;rw[g8]at s1 s2;have f2:=K2.L kk;have K3:Kd (inQ RR (gvN r tl hd rows i)) 3 n9 (sC a4 (a3.1.size+1) kk (oB true)) a3.1.size:=K1.set' Oo;obtain⟨-,s3,rfl⟩:=K3.at e7;have f3:=K3.L kk;have i3:(kk:Int)<n9:=Oo;generalize hLW:K5 r lw=LW at *;have KJ:Hh (∀y,Cl 49 #[ai y,ai LW,ai (r:Int)] a4 λe w'=>e=rE (ai (plu r y LW))/\w'=a4):=λy=>qAR hr _ y _;have HN:Hh (∀z,z=bu r (gvN r tl hd rows i) pp LW->Bl a3 (sW (sC a4 (a3.1.size+1) kk (oB true)) (az a3.1.size kk) (ai z))/\Kd (inQ RR (gvN r tl hd rows (i+1))) 3 n9 (sW (sC a4 (a3.1.size+1) kk (oB true)) (az a3.1.size kk) (ai z)) a3.1.size/\Kd (boQ RR (gvN r tl hd rows (i+1))) 4 n9 (sW (sC a4 (a3.1.size+1) kk (oB true)) (az a3.1.size kk) (ai z)) (a3.1.size+1)):=λz hz=>by
   rw[n3.o,<-hz];have own:∀{x:Int},X3 (gvN r tl hd rows i) pp x pp=Q x:=λ{x}=>fE rfl;have oth:∀{x:Int} {j:Nat},U RR j []≠pp->X3 (gvN r tl hd rows i) pp x (U RR j [])=gvN r tl hd rows i (U RR j []):=λ{x j} d5=>fF d5;exact⟨((ay (bt b7.1 f7)).o.setCell (by show a3.1.size<=a3.1.size+1;omega) _).setCell eA _,K3.setL (by unfold inQ;rw[g8,own];rfl) λj v hj d5 hv=>by unfold inQ at hv ⊢;rw[oth (f8 j hj d5)];exact hv,(K2.setL (by unfold boQ;rw[g8,own];rfl) λj v hj d5 hv=>by unfold boQ at hv ⊢;rw[oth (f8 j hj d5)];exact hv).set' Oo⟩
  clear K1 K2 K3 n6 f7 e9 h7 e6 n4 d0 d1 b7 f8 hLW n3;cases hbb:gvN r tl hd rows i pp with
  |none=>
   have hz:bu r (gvN r tl hd rows i) pp LW=LW:=by unfold bu;rw[hbb]
   have k0:=ay (HN _ hz.symm);rw[hbb]at s1 s2;have s1:aC a4 a3.1.size kk (ai 0):=s1;have s2:aC a4 (a3.1.size+1) kk (oB nF):=s2;clear HN hbb hz;go_wp2;go_roundw;exact⟨i+1,Oo,Gg,k0⟩;exact Im
  |some yy=>
   have hz:bu r (gvN r tl hd rows i) pp LW=plu r yy LW:=by unfold bu;rw[hbb]
   have k0:=ay (HN _ hz.symm);have q2:=ay (KJ yy);rw[hbb]at s1 s2;have s1:aC a4 a3.1.size kk (ai yy):=s1;have s2:aC a4 (a3.1.size+1) kk (oB true):=s2;clear HN hbb hz KJ;go_wp2_with (first|(go_at_call 49;apply q2.o.mono;rintro e r5 ⟨rfl,rfl⟩)|fail);go_roundw;exact⟨i+1,Oo,Gg,k0⟩;exact Im
 obtain rfl:nr=i:=Oo;have i2:=aY nr;have HF:Hh (ISS wr (Z ar n9 cr) (srt (rows.map (qM hd)))/\IS wr (sZ a3.1.size 0 n9 n9) ((srt (rows.map (qM hd))).map λq=>(gvN r tl hd rows (E rows) q).getD 0)/\Bl w wr):=⟨by rw[<-m6.o];exact h6.o.iss.zz HT.1,by
  rw[<-m6.o];refine⟨_,n9,by rw[lM,d4.o],Or.inr ⟨_,0,rfl,λj hj=>?_⟩⟩;rw[lM]at hj;obtain⟨-,h2,rfl⟩:=HT.2.1.at (j:=j) (by rw[d4.o];exact hj);rw[cU,h2,i4.o,gD (l:=RR.map _),bK,gE hj,gdR hj];rfl,bt i5 (bt e4 HT.1)⟩
 go_wp2_with fail;go_ret3;exact⟨_,_,⟨_,rfl⟩,HF.1,HF.2.1,HF.2.2⟩
open Meet
def wsJ(t:TbV):Bool:=t.k.all wtB
def fk(w:oX)(vt:oV)(tl:List TbV)(h:ITs w vt tl)(hl:E tl<=1099511627776)(hs:∀t∈tl,TvS t):
 Cl 34 #[vt] w λe w'=>e=rE (oB (tl.all wsJ))/\Bl w w':=by
 obtain⟨c7,ct,rfl,hc⟩:=h;have HC:Hh (∀W,Bl w W->∀j,j<E tl->∃b oo,c7=Q (az b oo)/\TabAt W b (oo+j*3) (U tl j qA)):=λW hW j hj=>by
  rcases hc with h0|⟨b,oo,rfl,h⟩;omega;exact⟨b,oo,rfl,(h j hj).zz hW⟩
 have HR:Hh (∀j,j<E tl->TvS (U tl j qA)):=λj hj=>hs _ (by rw[gD,gE hj];exact gM _);have⟨res,a3⟩:=Ex (tl.all wsJ);have HA:Hh (∀j,j<E tl->wsJ (U tl j qA)=nF->res=nF):=λj hj e=>by
  rw[a3,all_eq_false];exact⟨_,by rw[gD,gE hj]at e;exact gM hj,by rw[gD,gE hj]at e;simp only[dI]at e;rw[e];simp⟩
 have a5:Hh ((∀i,i<E tl->wsJ (U tl i qA))->res):=λh=>by
  rw[a3,aT];intro t ht;obtain⟨i,hi,rfl⟩:=gO ht;have:=h i hi;rwa[gD,gE hi]at this
 rw[<-a3];clear a3 hs;obtain⟨n,hn⟩:=Ex (E tl);rw[<-hn]at hl HC HR HA a5 ⊢;clear hn hc;go_enter func34,ntmps34;go_wp2;go_loopw [7] (λt wr=>∃(j:Nat),j<=n/\t=ai j/\Hh ((∀i,i<j->wsJ (U tl i qA))/\Bl w wr)) (mZ n);exact⟨0,nZ _,rfl,ay ⟨λi hi=>Oo,bJ _ _⟩⟩;obtain⟨j,c9,rfl,HT⟩:=hrel;by_cases a6:j<n
 ·have i1:=aV a6;obtain⟨b,oo,ea,v0,v1,v2,c0,c1,c2,hI⟩:=HC _ HT.2 j a6;subst ea;have b7:=ay (HA j a6);obtain⟨W3,a4⟩:=Ex (S wr (eZ #[v0,v1,v2] 58));have a7:Bl wr W3:=by rw[a4];exact(bJ _ _).alloc (nR _) _
  have a8:Hh (TX W3 (J wr.1) v0 v1 v2):=(a4▸TX.zw _ _ _ _);have KT:=ay (fT _ _ _ (hI.zz a7).k (ay (HR j a6)).o.k);have b8:=ay (bt HT.2 a7);obtain⟨a0,k0,e0,-⟩:=hI.e;obtain⟨a1,k1,e1,-⟩:=hI.x;obtain⟨a2,k2,e2,-⟩:=hI.k;subst e0 e1 e2;have ey:(U tl j qA).k.all wtB=wsJ (U tl j qA):=rfl;rw[ey]at KT;have b9:Hh (wsJ (U tl j qA)->∀i,i<j+1->wsJ (U tl i qA)):=λhy i hi=>by
   by_cases e:i=j;rw[e];exact hy;exact HT.1 i Oo
  generalize wsJ (U tl j qA)=y at KT b7 b9;generalize E (U tl j qA).x=nr,E (U tl j qA).e=n0,E (U tl j qA).k=n2 at *;clear a7 hI HT ey;have d2:=a8.o.c2;go_upto_region 4 with fail;rw[<-a4];clear a4;cases y
  ·have c8:=ay (b7 rfl);go_wp2_with (first|(go_at_call 50;apply KT.o.mn;intro w4 a9;subst a9)|fail);go_ret;exact⟨by rw[c8.o];rfl,b8⟩
  go_wp2_with (first|(go_at_call 50;apply KT.o.mn;intro w4 a9;subst a9)|fail);go_roundw;exact⟨j+1,Oo,Gg,ay ⟨b9 (by trivial),b8⟩⟩;exact Im
 obtain rfl:j=n:=Oo;have i1:=aY j;have HY:=ay (a5 HT.1);go_wp2;go_ret;exact⟨by rw[HY.o];rfl,HT.2⟩
def rgO(x:Int):oV:=if x=1 then rgV 1 else if x=2 then rgV 2 else if x=3 then rgV 3 else .nilIface
def fV(w:oX)(x:Int):Cl 33 #[ai x] w λe w'=>e=rE (rgO x)/\w'=w:=by
 by_cases h1:x=1
 ·subst h1;go_enter func33,ntmps33;go_wp2;go_ret;exact⟨rfl,rfl⟩
 by_cases h2:x=2
 ·subst h2;go_enter func33,ntmps33;go_wp2;go_ret;exact⟨rfl,rfl⟩
 by_cases h3:x=3
 ·subst h3;go_enter func33,ntmps33;go_wp2;go_ret;exact⟨rfl,rfl⟩
 have e:rgO x=.nilIface:=by unfold rgO;rw[fF h1,fF h2,fF h3]
 rw[e]
 go_enter func33,ntmps33;go_wp2;go_ret;exact⟨rfl,rfl⟩
def qEk{k:Int}{o:LI}(h:hdB k o){j:Nat}(hj:j<E o):(0<=U o j 0/\U o j 0<k)/\U o j 0∉o.take j:=by
 have:=aT.1 h j (cJ.2 hj);unfold yl at this;simpa using this
def qAQ{k:Int}{o:LI}(h:hdB k o)(y:Int)(hy:y∈o):0<=y/\y<k:=by
 obtain⟨j,hj,rfl⟩:=gO hy;have:=(qEk h hj).1;rwa[gdR hj]at this
def qI5{k:Int}{o:LI}(h:hdB k o):o.Nodup:=pairwise_iff_getElem.2 λi j hi hj a3 e=>by
 have:=(qEk h hj).2;rw[gdR hj,<-e]at this;exact this (mem_take_iff_getElem.2 ⟨i,Oo,rfl⟩)
def UB{k:Int}{o:LI}(h:hdB k o)(hk:k<=6):E o<=6:=by
 have:=je (b:=upR k.toNat) (qI5 h) λy hy=>uw.2 (O1 (qAQ h y hy));rw[zO]at this;omega
def agR(k:Nat)(tl:List TbV)(hd:LI):LL:=srt ((qO tl (upR k)).map (qM hd))
def agV(r k:Nat)(tl:List TbV)(hd:LI):LI:=(agR k tl hd).map λq=>(gvN r tl hd (qO tl (upR k)) (E (qO tl (upR k))) q).getD 0
def cd(rd:Bool)(k:Int)(tl:List TbV)(hd:LI)(ring:Int):Bool:=rd&&hdB k hd&&oD (1<=ring/\ring<=3)&&(oD (ring≠3)||tl.all wsJ)
def yv(rd:Bool)(k:Int)(tl:List TbV)(hd:LI)(ring:Int):LL:=if cd rd k tl hd ring then agR k.toNat tl hd else []
def vi(rd:Bool)(k:Int)(tl:List TbV)(hd:LI)(ring:Int):LI:=if cd rd k tl hd ring then agV ring.toNat k.toNat tl hd else []
def dz{rd:Bool}{k:Int}{tl:List TbV}{hd:LI}{ring:Int}(h:cd rd k tl hd ring):rd/\hdB k hd/\(1<=ring/\ring<=3)/\(ring=3->tl.all wsJ):=by
 unfold cd at h;rw[bV,bV,bV,eT,dE,dE]at h;exact⟨h.1.1.1,h.1.1.2,h.1.2,λe=>h.2.resolve_left λh2=>h2 e⟩
def db(ring x:Int):Bool:=oD (ring=3)&&!wtB x
def gS(w:oX)(vt v0 v1 v2 v3 vh:oV)(k x y ring:Int)(tl:List TbV)(bs:LL)(ps hs:LI)(ws:List (Int×Int))(hd:LI)(h:ITs w vt tl)(hC:∀W,Bl w W->ITsC W vt tl)(hl:E tl<=1048576)(d7:∀t∈tl,TvS t)(hp:IPl w v0 v1 v2 v3 bs ps hs ws)(e6:qS bs)(hh:IS w vh hd)(h4:E hd<=1099511627776)(d5:∀a n cap,vh=Z a n cap->n<=cap):
 Cl 6 #[ai k,vt,aQ #[v0,v1,v2,v3,ai x,ai y],vh,ai ring] w λe w'=>∃v vv,e=rE (.tuple #[v,vv])/\ISS w' v (yv (qc k tl bs ps hs ws (x,y)) k tl hd ring)/\IS w' vv (vi (qc k tl bs ps hs ws (x,y)) k tl hd ring)/\Bl w w':=by
 have j0:Tryz.prog.follows .mixedOrders:=Kl;have KR:Hh (∀W,Bl w W->Cl 25 #[ai k,vt,aQ #[v0,v1,v2,v3,ai x,ai y]] W λe w'=>e=rE (oB (qc k tl bs ps hs ws (x,y)))/\Bl W w'):=λW hW=>JK W k x y (h.zz hW) hl d7 (hp.zz hW) e6;have KH:Hh (qc k tl bs ps hs ws (x,y)->∀W,Bl w W->Cl 26 #[ai k,vh] W λe w'=>e=rE (oB (hdB k hd))/\Bl W w'):=λhr W hW=>by
  obtain⟨q0,q6,-⟩:=xA (zR hr).2.1;have h1:=qAG W k.toNat (hh.zz hW) Oo h4 d5;rw[show((k.toNat:Nat):Int)=k by omega]at h1;apply h1.mn;intro w' rfl;exact⟨rfl,bJ _ _⟩
 have KG:Hh (cd (qc k tl bs ps hs ws (x,y)) k tl hd ring->∀W,Bl w W->Cl 28 #[ai k,vt,vh,ai ring] W λe w'=>∃v vv vb,e=rE (.tuple #[v,vv,vb])/\ISS w' v (agR k.toNat tl hd)/\IS w' vv (agV ring.toNat k.toNat tl hd)/\Bl W w'):=λho W hW=>by
  obtain⟨hr,e7,h6,-⟩:=dz ho;have⟨r1,r2,r3,r4,r5⟩:=zR hr;obtain⟨q0,q6,-⟩:=xA r2;have h1:=Vx (r:=ring.toNat) (by unfold X4;omega) W _ _ _ _ _ (hC W hW) Oo r4 (qJi hr) (hh.zz hW) (UB e7 q6) (λy hy=>O1 (qAQ e7 y hy));rw[show((k.toNat:Nat):Int)=k by omega,show((ring.toNat:Nat):Int)=ring by omega]at h1;exact h1
 have HE:Hh (cd (qc k tl bs ps hs ws (x,y)) k tl hd ring=(qc k tl bs ps hs ws (x,y)&&hdB k hd&&oD (1<=ring/\ring<=3)&&(oD (ring≠3)||tl.all wsJ))):=rfl;have HY:Hh (cd (qc k tl bs ps hs ws (x,y)) k tl hd ring->yv (qc k tl bs ps hs ws (x,y)) k tl hd ring=agR k.toNat tl hd/\vi (qc k tl bs ps hs ws (x,y)) k tl hd ring=agV ring.toNat k.toNat tl hd):=λh=>by unfold yv vi;rw[fE h,fE h];exact⟨rfl,rfl⟩
 have HZ:Hh (cd (qc k tl bs ps hs ws (x,y)) k tl hd ring=nF->yv (qc k tl bs ps hs ws (x,y)) k tl hd ring=[]/\vi (qc k tl bs ps hs ws (x,y)) k tl hd ring=[]):=λh=>by unfold yv vi;rw[h];exact⟨rfl,rfl⟩
 have a6:Hh ((∀i,i<E tl->∀j,j<E (U tl i qA).k->db ring (U (U tl i qA).k j 0)=nF)->(oD (ring≠3)||tl.all wsJ)):=λhb=>by
  by_cases e:ring=3;rw[eT];refine Or.inr (aT.2 λt ht=>aT.2 λz hz=>?_);obtain⟨i,hi,rfl⟩:=gO ht;obtain⟨j,hj,rfl⟩:=gO hz;have h1:=hb i hi j (by rw[gdR hi];exact hj);rw[gdR hi,gdR hj]at h1;unfold db at h1;rw[fD e,dG,nU]at h1;exact h1;rw[fD e];rfl
 have a7:Hh (∀i,i<E tl->∀j,j<E (U tl i qA).k->db ring (U (U tl i qA).k j 0)->ring=3/\tl.all wsJ=nF):=λi hi j hj hb=>by
  unfold db at hb;rw[bV,dE,eY]at hb;refine⟨hb.1,all_eq_false.2 ⟨_,qz (d:=qA) hi,?_⟩⟩;intro h2;have h3:=aT.1 h2 _ (qz (d:=0) hj);rw[hb.2]at h3;cases h3
 have HT:Hh (∀W,Bl w W->∀j,j<E tl->∃b oo,(∃n c,vt=sZ b oo n c)/\TabAt W b (oo+j*3) (U tl j qA)):=λW hW j hj=>by
  have⟨a,c,e,hc⟩:=h;rcases hc with h0|⟨b,oo,rfl,hc⟩;omega;exact⟨b,oo,⟨_,_,e⟩,(hc j hj).zz hW⟩
 have HS:Hh (∀j,j<E tl->E (U tl j qA).k<=1099511627776):=λj hj=>(d7 _ (qz hj)).k;have⟨AO,e8⟩:=Ex (cd (qc k tl bs ps hs ws (x,y)) k tl hd ring);rw[<-e8]at KG HE HY HZ;clear e8;generalize yv (qc k tl bs ps hs ws (x,y)) k tl hd ring=EA,vi (qc k tl bs ps hs ws (x,y)) k tl hd ring=EV,agR k.toNat tl hd=RR,agV ring.toNat k.toNat tl hd=VV at *;obtain⟨a0,k0,rfl,-⟩:=hp.b;obtain⟨a1,k1,rfl,-⟩:=hp.p;obtain⟨a2,k2,rfl,-⟩:=hp.h;obtain⟨a3,k3,rfl,-⟩:=hp.d;obtain⟨ah,kh,rfl,-⟩:=hh;clear hp e6 d7 hC d5;obtain⟨j1,ct,rfl,-⟩:=h;generalize qc k tl bs ps hs ws (x,y)=RD,hdB k hd=HD at *;have⟨SW,e9⟩:=Ex (tl.all wsJ);rw[<-e9]at HE a6 a7;clear e9;have⟨n,hn⟩:=Ex (E tl);rw[<-hn]at a6 a7 HT HS hl KR KG ⊢;clear hn;generalize E bs=nb,E ps=np,E hs=nh at *;generalize E ws=nw at *;generalize E hd=nd at *;have⟨W1,a5⟩:=Ex (S w (eZ #[Z a0 nb k0,Z a1 np k1,Z a2 nh k2,Z a3 nw k3,ai x,ai y] 39));have f7:Hh (PX 39 W1 (J w.1) (Z a0 nb k0) (Z a1 np k1) (Z a2 nh k2) (Z a3 nw k3) x y):=(a5▸PX.zw _ _ _ _ _ _ _ _);have a8:Hh (Bl w W1):=(by rw[a5];exact(bJ _ _).alloc (nR _) _);have⟨s0,s1,s2,s3,s4,s5⟩:=f7.o.six;have b8:=ay (KR _ a8);have KB:=ay gB;have d3:Hh (∀W,Bl w W->AO=nF->ISS (S (aJ W #[] 24) (eZ #[] 3)) (sZ (J W.1) 0 0 0) EA/\IS (S (aJ W #[] 24) (eZ #[] 3)) (sZ (J W.1+1) 0 0 0) EV/\Bl w (S (aJ W #[] 24) (eZ #[] 3))):=λW hW e=>by
  rw[(HZ.o e).1,(HZ.o e).2];exact⟨⟨_,0,rfl,Or.inl rfl⟩,⟨_,0,rfl,Or.inl rfl⟩,uP (uP hW _) _⟩
 clear KR;cases RD with
 |false=>
  have HG:Hh (AO=nF):=(by rw[HE.o];rfl);clear KH KG HE HY HZ a6 a7 HT HS;go_enter func6,ntmps6;go_upto_region 1 with fail;rw[<-a5];clear a5;go_wp2_with (first|(go_at_call 25;apply b8.o.mono;rintro e w2 ⟨rfl,a4⟩)|fail);go_ret2;exact⟨_,_,rfl,d3 _ (bt a8 a4) HG⟩
 |true=>
  have d4:=ay (KH rfl);clear KH;cases HD with
  |false=>
   have HG:Hh (AO=nF):=(by rw[HE.o];rfl);clear KG HE HY HZ a6 a7 HT HS;go_enter func6,ntmps6;go_upto_region 1 with fail;rw[<-a5];clear a5;go_wp2_with (first|(go_at_call 25;apply b8.o.mono;rintro e w2 ⟨rfl,a4⟩)|(go_at_call 26;apply (d4.o _ (bt a8.o a4)).mono;rintro e w3 ⟨rfl,b7⟩)|fail);go_ret2;exact⟨_,_,rfl,d3 _ (bt a8 (bt a4 b7)) HG⟩
  |true=>
   have⟨BR,a9⟩:=Ex ((oD (1<=ring)&&oD (ring<=3)));have b9:Hh (∀W,Cl 27 #[ai ring,ai 1,ai 3] W λe w'=>e=rE (oB BR)/\w'=W):=λW=>a9▸KB W _ 1 3
   cases hb:BR with
   |false=>
    have HG:Hh (AO=nF):=(by
     rw[HE.o,fC (p:=1<=ring/\ring<=3) (λh=>by rw[hb,fD h.1,fD h.2]at a9;cases a9)];rfl)
    rw[hb]at b9;clear KG HE HY HZ a6 a7 HT HS a9 hb;go_enter func6,ntmps6;go_upto_region 1 with fail;rw[<-a5];clear a5;go_wp2_with (first|(go_at_call 25;apply b8.o.mono;rintro e w2 ⟨rfl,a4⟩)|(go_at_call 26;apply (d4.o _ (bt a8.o a4)).mono;rintro e w3 ⟨rfl,b7⟩)|(go_at_call 27;apply (b9.o w3).mn;intro w' d8;subst w')|fail);go_ret2;exact⟨_,_,rfl,d3 _ (bt a8 (bt a4 b7)) HG⟩
   |true=>
    have h7:1<=ring/\ring<=3:=by
     rw[hb]at a9;have:=a9.symm;rwa[bV,dE,dE]at this
    have f8:Hh (AO=(oD (ring≠3)||SW)):=(by rw[HE.o,fD h7];rfl);rw[hb]at b9;clear HE a9 hb;go_enter func6,ntmps6;go_upto_region 1 with fail;rw[<-a5];clear a5;go_upto_region 3 with (first|(go_at_call 25;apply b8.o.mono;rintro e w2 ⟨rfl,a4⟩)|(go_at_call 26;apply (d4.o _ (bt a8.o a4)).mono;rintro e w3 ⟨rfl,b7⟩)|(go_at_call 27;apply (b9.o w3).mn;intro w' d8;subst w')|fail);have h8:Hh (Bl w w3):=bt a8 (bt a4 b7);clear a4 b7 s0 s1 s2 s3 s4 s5 f7 a8 b8 d4 b9;go_wp2;go_loopw [39] (λt wr=>∃(i:Nat),i<=n/\t=ai i/\Hh ((∀i',i'<i->∀j,j<E (U tl i' qA).k->db ring (U (U tl i' qA).k j 0)=nF)/\Bl w wr)) (mZ n);exact⟨0,nZ _,rfl,ay ⟨λi hi=>Oo,h8⟩⟩;obtain⟨i,j2,rfl,b1⟩:=hrel;by_cases d9:i<n
    ·have i1:=aV d9;have⟨b,oo,⟨n',c',ea⟩,v0,v1,v2,c0,c1,c2,hI⟩:=HT _ b1.2 i d9;simp only[vI]at ea;obtain⟨rfl,-,-⟩:=ea;have h9:=HS i d9;have f9:=ay (a7 i d9);have⟨W3,c7⟩:=Ex (S wr (eZ #[v0,v1,v2] 58));have e3:Bl wr W3:=by rw[c7];exact(bJ _ _).alloc (nR _) _
     have e4:Hh (TX W3 (J wr.1) v0 v1 v2):=(c7▸TX.zw _ _ _ _);have g4:=ay (bt b1.2 e3);have g5:Hh ((∀j,j<E (U tl i qA).k->db ring (U (U tl i qA).k j 0)=nF)->∀i',i'<i+1->∀j,j<E (U tl i' qA).k->db ring (U (U tl i' qA).k j 0)=nF):=λhy i' j3=>by
      by_cases e:i'=i;rw[e];exact hy;exact b1.1 _ Oo
     obtain⟨y0,z0,e0,-⟩:=hI.e;obtain⟨y1,z1,e1,-⟩:=hI.x;have⟨y2,z2,e2,c8⟩:=hI.k;subst e0 e1 e2;have HW:Hh (E (U tl i qA).k=0∨∃b o,y2=Q (az b o)/\∀j,j<E (U tl i qA).k->aC W3 b (o+j) (ai (U (U tl i qA).k j 0))):=c8.imp id λ⟨b,o,e,hc⟩=>⟨b,o,e,λj hj=>qF e3 (hc j hj)⟩;generalize E (U tl i qA).x=nr,E (U tl i qA).e=n0,(U tl i qA).k=wl at *;have⟨m,hm⟩:=Ex (E wl);rw[<-hm]at HW g5 f9 h9;clear c8 hI e3 b1;have d0:=e4.o.c0;have d1:=e4.o.c1;have d2:=e4.o.c2;rw[<-hm]at d2 c7;rw[<-hm]at c2;clear hm;go_upto_region 6 with fail;rw[<-c7];clear c7 c0 c1 c2;go_wp2;go_loopw [15,46] (λq t wq=>∃(j:Nat),j<=m/\t=ai j/\wq=W3/\Hh (∀j',j'<j->db ring (U wl j' 0)=nF)) (λ_ t _=>m-(intOf t).toNat);exact⟨0,nZ _,rfl,rfl,ay λj hj=>Oo⟩;obtain⟨j,j4,rfl,e,HV⟩:=hrel;subst e;by_cases d6:j<m
     ·have i2:=aV d6;rcases HW.o with h0|⟨bw,ow,rfl,c8⟩;omega;have cw:=c8 j d6;have i0:=ay (f9 j d6);have g6:Hh (db ring (U wl j 0)=nF->∀j',j'<j+1->db ring (U wl j' 0)=nF):=λhy j' j5=>by
       by_cases e:j'=j;rw[e];exact hy;exact HV _ Oo
      generalize U wl j 0=z at *;clear c8 HV;by_cases h3:ring=3
      ·subst h3;have⟨bz,c9⟩:=Ex (wtB z);have g7:Hh (∀W,Cl 27 #[ai z,ai (-1000000),ai 1000000] W λe w'=>e=rE (oB bz)/\w'=W):=λW=>by rw[c9];unfold wtB;exact KB W z _ _
       cases bz with
       |false=>
        have HG:Hh (AO=nF):=(by
         have h5:=i0 (by unfold db;rw[<-c9];rfl);rw[f8.o,h5.2];rfl)
        clear c9;go_wp2_with (first|(go_at_call 27;apply (g7.o _).mn;intro w' d8;subst w')|fail);go_ret2;exact⟨_,_,rfl,d3 _ g4 HG⟩
       |true=>
        have e5:=ay (g6 (by unfold db;rw[<-c9];rfl));clear c9;go_wp2_with (first|(go_at_call 27;apply (g7.o _).mn;intro w' d8;subst w')|fail);go_roundw;exact⟨j+1,Oo,Gg,trivial,e5⟩;exact Im
      have q3:(ring == 3)=false:=by simpa using h3
      go_wp2;go_roundw;exact⟨j+1,Oo,Gg,trivial,ay (g6 (by unfold db;rw[fC h3];rfl))⟩;exact Im
     have i3:j=m:=Oo;have i2:¬((j:Int)<m):=Oo;have i4:=ay (g5 (by rw[i3]at HV;exact HV));clear HV;go_wp2;go_roundw;exact⟨i+1,Oo,Gg,ay ⟨i4,g4⟩⟩;exact Im
    have i5:i=n:=Oo;have i1:¬((i:Int)<n):=Oo;have HG:Hh (AO):=(by
     rw[f8.o];exact a6 (by have:=b1.1;rwa[i5]at this))
    have g8:=ay (HY HG);have g9:=ay b1.2;clear b1;go_wp2_with (first|(go_at_call 28;apply ((KG HG) _ g9.o).mono;rintro e w4 ⟨v4,j6,k4,rfl,i7,i8,i9⟩)|fail);go_ret2;exact⟨_,_,rfl,g8.o.1▸i7,g8.o.2▸i8,bt g9 i9⟩
