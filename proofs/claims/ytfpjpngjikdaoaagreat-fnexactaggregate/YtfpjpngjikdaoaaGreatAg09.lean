import Derived.Test.YtfpjpngjikdaoaaGreatAg08
import Derived.Test.YtfpjpngjikdaoaaGreatAg06
import Derived.RangeFuncBox
set_option maxHeartbeats 40000000
set_option maxRecDepth 1000000
set_option linter.defProp false
open List Go.World
open List renaming length->E,getD->U
open Array renaming size->J
open Go.World renaming alloc->S,ownsRow->oW,setCell->sW,cell?->eQ,putObj_heap_other->tP,alloc_heap_new->tQ
open Go.Value renaming slice->Z,bool->oB,agg->aQ,ownBlock->wN
open Go.Obj renaming cells->eZ
open Go.Ending renaming returned->rE
open Option renaming some->Q,none->wH
open Bool renaming false->nF
open Go renaming World->oX,Value->oV,below_drewN->rB,run_takeDeferred->tF,undef->tM
open Decidable renaming decide->oD
open Go.Proofs.Tryz renaming prog->wD
namespace Go.Proofs.YtfpjpngjikdaoaaGreat
open Go.Proofs.Tryz Go.RowKit Meet Go.Shelf
section
variable {p:LI}{ps tot:LL}{m:Nat}
attribute [local go_sem] Oper.semAt_some
def LgG(x:JX)(nxt:LI->LI)(no l0:Nat):Prop:=∀(w:oX) (bB bH:Nat) (vp vb:oV) (p:LI),E p<no->x.Hd p->Dat x w->Brn x x.n0 w vp vb p->BrX w bB vp vb->x.n0<=bB->w.1[bH]?=Q (eZ #[U x.uh (E p) tM] 24 (0,0))->x.n0<=bH->¬RBk x w bH->
 Gives wD 190 #[pZ bB 0,pZ bH 0] qDh (KpB x l0) (λ_ _ _=>True) (qJA x nxt p) (nxt p) w
def WkE(x:JX)(l:Nat)(iJ:LL->WP)(Jx:WP)(ys:LL)(Y:oX)(e:Ending)(iZ:oX):Prop:=
 (e=rE (oB true)/\iJ ys iZ/\KpS x (λk=>k=l) Y iZ)\/(e=rE (oB nF)/\Jx iZ/\KpS x (λk=>k=l) Y iZ)
def npQ(iQ:Exit->Act->WP):Exit->Act->WP
 | .panic _,_,_=>False
 | .outgrown,_,_=>False
 |e,a,w=>iQ e a w
def npQ.imp{iQ}:∀e a w,npQ iQ e a w->iQ e a w:=λe a w h=>by
 cases e with
 |panic c=>exact h.elim
 |outgrown=>exact h.elim
 |normal=>exact h
 |ret=>exact h
 |exit i=>exact h
 |goto t=>exact h
def qFu nxt m p:∃r,zH nxt m p=p::r:=by
 cases m with
 |zero=>exact⟨[],rfl⟩
 |succ m=>exact⟨_,rfl⟩
def qHh{nxt}(h:ps++zH nxt m p <+:tot):ps++[p] <+:tot:=by
 have⟨r,e⟩:=qFu nxt m p;rw[e]at h;exact List.IsPrefix.trans ⟨r,Ss⟩ h
def qHi{nxt}{pre:LI}{y:Int}(h:ps++zH nxt (m+1) p <+:tot)(I:pre++[y] <+:nxt p):ps++[p]++pre.flatMap (λy=>zH nxt m (p++[y]))++zH nxt m (p++[y]) <+:tot:=by
 have⟨r,e⟩:=I;refine List.IsPrefix.trans ⟨r.flatMap λy=>zH nxt m (p++[y]),?_⟩ h;have K:ps++zH nxt (m+1) p=ps++[p]++(nxt p).flatMap λy=>zH nxt m (p++[y]):=by rw[dN];rfl
 rw[K,<-e,dM,dM,flatMap_singleton];simp only[dN]
def WkC(x:JX)(nxt:LI->LI)(no l:Nat)(tot:LL)(iJ:LL->WP)(Jx:WP)(m:Nat):Prop:=∀(p:LI) (ps:LL) (X Y:oX) (vp vb hvv:oV),E p+m=no->ps++zH nxt m p <+:tot->x.Hd p->x.n0<=J X.1->iJ ps X->KT x.n0 X Y->Dat x Y->Brn x (J X.1) Y vp vb p->(∃g c,vp=sZ g 0 (E p) c)->HVs x no (E p) hvv->
 Cl 122 #[aQ #[vp,vb],hvv,.func (.yield l) #[] #[]] Y (WkE x l iJ Jx (ps++zH nxt m p) Y)
def U4 x(hx:x.Ok)nxt no(hm:JMx x nxt no)(k3:∀p,E p<no->x.Hd p->∀y∈nxt p,x.Hd (p++[y]))l(hl:l<x.n0)(hG:LgG x nxt no l)(tot:LL)iJ Jx
 (hJ:∀s X Y,iJ s X->KT x.n0 X Y->iJ s Y) (k4:∀X Y,Jx X->KT x.n0 X Y->Jx Y)
 (hY:∀ps p vp X Y,iJ ps X->KT x.n0 X Y->oW Y (J X.1) 3 1 vp (E p) (p.map ai)->E p<=no->(∃g c,vp=sZ g 0 (E p) c)->ps++[p] <+:tot->YieldAt Fence.wide 0 wD l #[vp] Y λe iZ=>(e=rE (oB true)/\iJ (ps++[p]) iZ/\KpS x (λk=>k=l) Y iZ)\/(e=rE (oB nF)/\Jx iZ/\KpS x (λk=>k=l) Y iZ))
 m (ih:∀m',m=m'+1->WkC x nxt no l tot iJ Jx m'):WkC x nxt no l tot iJ Jx m:=by
 intro p ps X Y vp vb hvv g9 d1 hd i0 k5 i3 g5 b8 k6 n9;have e3:=bM i0 i3.O.size;have k7:=hx.r;have⟨W1,a8⟩:=Ex (S (S (S (aJ Y #[vp,vb] 180) (eZ #[hvv] 23)) (eZ #[.func (.yield l) #[] #[]] 93)) (eZ #[oB nF] 4));have c8:Bl Y W1:=by rw[a8];exact qC (qC (qC (qC eB _) _) _) _
 have hs1:J W1.1=J Y.1+4:=by rw[a8];simp
 have e4:Frm (J Y.1) l vp vb hvv W1 false:=by
  rw[a8];have a1:∀(W:oX) (o:Obj) (k:Nat),k=J W.1->(S W o).1[k]?=Q o:=λW o k hk=>by rw[hk];exact tQ W o
  have a2:∀(W:oX) (o o':Obj) (k:Nat),W.1[k]?=Q o->(S W o').1[k]?=Q o:=λW o o' k hk=>(eL (qZ hk)).trans hk;exact⟨a2 _ _ _ _ (a2 _ _ _ _ (a2 _ _ _ _ (a1 _ _ _ rfl))),a2 _ _ _ _ (a2 _ _ _ _ (a1 _ _ _ Ss)),a2 _ _ _ _ (a1 _ _ _ Ss),a1 _ _ _ Ss⟩
 have k8:=i3.trans (KT.zu c8 e3);have⟨fn,tmps,assign,body,hy,hR⟩:=hY _ p _ X _ k5 k8 (qB b8.pre c8) Oo k6 (qHh d1);have k9:=ay d1;clear d1;have HR:=ay hR;have i4:=ay e4;have o3:=ay c8;have i5:=ay (g5.kt (KT.zu c8 e3) hx);have g6:=ay (b8.zz c8);have c3:=e4.b3.c0;have c5:aC W1 (J Y.1+1+1) 0 (.func (.yield l) #[] #[]):=e4.c5;have⟨gp,cp,o4⟩:=k6;subst o4;have⟨ab,cb,o5⟩:=xT b8.O;subst o5;have⟨hb,oh,ch,l0,o6,l1,l3⟩:=n9;subst o6;have d2:=ay (And.intro l0 (And.intro l1 l3));clear hR e4 c8 k8 i3 k5 g5 b8 l0 l1 l3;have⟨np,i6⟩:=Ex (E p);have r9:=ay i6;refine(nW (n:=0)).1 (callsIn_of_wp_marks func122 rfl trivial ?_ rfl);simp only[ntmps122,size_toArray,cQ,length_nil,Nat.reduceAdd,Nat.reduceSub,pI,pH,push_toArray,append_toArray,nil_append,cons_append];refine wpIn_mono ?_ npQ.imp;refine(oF).2 ?_;have⟨iE,hE⟩:=Ex (WkE x l iJ Jx (ps++zH nxt m p) Y);rw[<-hE];have l4:Hh (∀iZ,iJ (ps++zH nxt m p) iZ->KpS x (λk=>k=l) Y iZ->iE (rE (oB true)) iZ):=λiZ h1 h2=>by rw[hE];exact .inl ⟨rfl,h1,h2⟩
 have l5:Hh (∀iZ,Jx iZ->KpS x (λk=>k=l) Y iZ->iE (rE (oB nF)) iZ):=λiZ h1 h2=>by rw[hE];exact .inr ⟨rfl,h1,h2⟩
 clear hE;have s3:=ay hs1;have l7:=ay g9;change Hh _ at hJ k4 hm hd hx hG k3 ih hl e3 i0 k7;have hlen:no-E p=m:=Oo;clear hY hs1 g9;rw[hlen]at a8 i4 d2 |-;clear hlen;rw[<-i6]at c3 hy g6 i4 a8 |-;clear i6;go_upto_region 1 with fail;rw[<-a8];clear a8;refine(oF (n:=0)).1 ?_;gi_wp2
 refine⟨rfl,?_⟩;apply HR.o.mono;rintro e O l8;have a4:KpS x (λk=>k=l) W1 O:=by
  rcases l8 with ⟨-,-,h⟩|⟨-,-,h⟩;exact h;exact h
 have a7:=ay (i4.o.kp a4 hx i5.o.ty e3);have l9:=ay ((KpS.zu o3 (by have:=e3.o;have:=k7.o;omega)).trans a4);have e6:=ay (i5.o.kp a4 hx);have o9:=ay (g6.o.sb (a4.sb hx i5.o.ty) (by have:=i0.o;exact this));have e7:=ay a7.o.lt;have d6:aC O (J Y.1+1+1+1) 0 (oB nF):=a7.o.c6;have f6:O.frozen? (az (J Y.1+1+1+1) 0)=false:=a7.o.f6;clear hy c3 c5 HR;have a5:Hh (∀r:Bool,KT x.n0 O (sC O (J Y.1+1+1+1) 0 (oB r))/\KpS x (λk=>k=l) Y (sC O (J Y.1+1+1+1) 0 (oB r))/\aC (sC O (J Y.1+1+1+1) 0 (oB r)) (J Y.1+1+1+1) 0 (oB r)):=λr=>by
  have⟨h1,h2⟩:=a7.o.set r;exact⟨h2.mono (O1 e3.o),l9.o.kt (h2.mono Oo) (by have:=e3.o;have:=k7.o;omega),h1.c6⟩
 rcases l8 with ⟨rfl,m0,-⟩|⟨rfl,m1,-⟩
 .change Hh _ at m0;clear a4;have d4:=a7.o.c4;gi_wp2
  cases m with
  |zero=>
   have r6:=(a5 true).2.2;have a3:=ay (l4 _ (hJ _ _ _ m0 (a5 true).1) (a5 true).2.1);go_wp2_with fail;exact⟨oB true,by simp[results,results122,go_sem,r6],a3⟩
  |succ m=>
   have q0:(((m+1:Nat):Int) == 0)=false:=Sy;have b9:E p<no:=O1 l7.o
   have⟨av,cv,e8⟩:=xT (e6.o.hq.l (E p) (by rw[hm.o.hl];exact b9));have f7:=HVs.cell hm e6 b9 d2.1;have i7:=d2.2.1 Oo;have⟨nv,m3⟩:=Ex (E (U x.hav (E p) []));rw[<-m3]at e8;rw[e8]at f7;rw[<-i7]at f7;change Hh _ at i7 e8;clear m3;have i8:Hh (∀W,Bl O W->aC W (J Y.1) 0 (sZ gp 0 np cp)/\aC W (J Y.1) 1 (Z ab x.nT cb)/\aC W (J Y.1+1) 0 (sZ hb oh (m+1) ch)/\aC W hb oh (Z av nv cv)/\Bl O W):=λW hW=>⟨(a7.o.b3.zz hW).c0,(a7.o.b3.zz hW).c1,xE hW d4,xE hW f7,hW⟩;have i1:(0:Int)<(((m+1:Nat)):Int):=Oo;go_upto_region 5 with fail;clear d4 f7;go_region_held_law (λW=>aC W (J Y.1) 0 (sZ gp 0 np cp)/\aC W (J Y.1) 1 (Z ab x.nT cb)/\aC W (J Y.1+1) 0 (sZ hb oh (m+1) ch)/\aC W hb oh (Z av nv cv)/\Bl O W)
    (with_reducible first|exact i8.o _ eB.drew|exact i8.o _ p6|exact i8.o _ (qT (qC (qC eB _) _)))
    (first
     |(go_simp;go_at_call 161;apply (qAl).mn;intro w2 p7;have p6:Bl O w2:=(by rw[p7];exact qC (qC eB.drew _) _))
     |fail)
   go_wp2_with fail;have⟨Wl,c9⟩:=Ex ((S (aJ O #[(sZ gp 0 np cp),(Z ab x.nT cb)] 180) (eZ #[Z av nv cv] 24)).drew);rw[<-c9];have f8:Bl O Wl:=by rw[c9];exact qT (qC (qC eB _) _)
   have m4:J Wl.1=O.1.size+2:=by rw[c9];show J ((O.alloc _).alloc _).1=_;simp
   have p8:BrX Wl O.1.size (sZ gp 0 np cp) (Z ab x.nT cb):=by rw[c9];exact(eL Ss).trans (tQ O _)
   have p9:Wl.1[O.1.size+1]?=Q (eZ #[Z av nv cv] 24 (0,0)):=by
    rw[c9];have:=tQ (aJ O #[(sZ gp 0 np cp),(Z ab x.nT cb)] 180) (eZ #[Z av nv cv] 24);rwa[aM]at this
   have m5:x.n0<=O.1.size:=by have:=e7.o;have:=e3.o;omega
   have i9:=KT.zu f8 m5;have m6:=e6.o.kt i9 hx;have q1:=o9.o.zz f8;have q2:¬RBk x Wl (O.1.size+1):=qJB e6.o.ty (i9.O.block _ k7) (iF _);have f9:WI x l (λW=>iJ (ps++[p]++([]:LI).flatMap λy=>zH nxt m (p++[y])) W) Y (sZ gp 0 np cp) (Z ab x.nT cb) (sZ hb oh (m+1) ch) Wl:=by
    refine⟨?_,l9.o.kt (KT.zu f8 (O1 e7.o):KT (J Y.1) O Wl) (by have:=e3.o;have:=k7.o;omega),a7.o.O f8 (O1 e7.o),m6⟩;have:=hJ.o _ _ _ m0.o i9;simpa using this
   have hg:=hG.o Wl O.1.size (O.1.size+1) (sZ gp 0 np cp) (Z ab x.nT cb) p b9 hd.o m6 (q1.zx i0.o) p8 m5 (by rw[e8.o];exact p9) Oo q2;have d3:J Y.1+3<J Wl.1:=O1 e7.o
   have d5:x.n0<=J Wl.1:=Oo;have s4:x.r<J Wl.1:=O1 k7.o
   clear c9;change Hh _ at m4;have⟨II,a9⟩:=Ex (λpre W=>WI x l (λW=>iJ (ps++[p]++pre.flatMap λy=>zH nxt m (p++[y])) W) Y (sZ gp 0 np cp) (Z ab x.nT cb) (sZ hb oh (m+1) ch) W:LI->WP);have⟨IX,d0⟩:=Ex (λc W=>c=.ret/\Jx W/\KpS x (λk=>k=l) Y W/\aC W (J Y.1+1+1+1) 0 (oB nF):Code->WP);have m7:=ay a9;have q3:=ay d0;refine(oF (n:=0)).1 ?_;refine QB (α:=Int) (β:=oV×oV) (gf:=190) (lb:=#[pZ O.1.size 0,pZ (O.1.size+1) 0]) rfl (enters_of func190 Kl rfl) hg (λ_=>rfl)
    (λh1 h2=>KpS.trans h1 h2) (λl2 W o o' h1 h2 h3=>KpS.put (.inr rfl) h2 h3 Oo) (λ_ _ _=>trivial)
    II IX
    (λs A C hA hk=>by rw[a9]at hA |-;exact WI.kt hA hx.o e3.o (hJ.o _) hk d3)
    (λc A C hA hk=>by rw[d0]at hA |-;exact⟨hA.1,k4.o _ _ hA.2.1 (hk.mono d5),hA.2.2.1.kt (hk.mono Oo) (by have:=e3.o;have:=k7.o;omega),(hk.O.cell (p:=az (J Y.1+1+1+1) 0) d3).trans hA.2.2.2⟩)
    (by rw[a9];exact f9)
    (λl2 pre y b a' W=>∃bq,WA x l (λW=>iJ (ps++[p]++pre.flatMap λy=>zH nxt m (p++[y])) W) Y (sZ gp 0 np cp) (Z ab x.nT cb) (sZ hb oh (m+1) ch) p y b.1 b.2 bq W/\pre++[y] <+:nxt p/\(∃g c,b.1=sZ g 0 (E p+1) c)/\(∃g c,b.2=sZ g 0 x.nT c)/\a'={ tmps:=#[aQ #[(sZ gp 0 np cp),(Z ab x.nT cb)],sZ hb oh (m+1) ch,.func (.yield l) #[] #[],pZ (J Y.1) 0,pZ (J Y.1+1) 0,pZ (J Y.1+1+1) 0,pZ (J Y.1+1+1+1) 0,pZ bq 0,.func (.yield l) #[] #[],pZ (J Y.1) 0,sZ gp 0 np cp,oB true,oB nF,sZ hb oh (m+1) ch,ai ((m:Int)+1),oB nF,aQ #[(sZ gp 0 np cp),(Z ab x.nT cb)],sZ hb oh (m+1) ch,pZ hb oh,Z av nv cv,.func (.func 190) #[] #[pZ O.1.size 0,pZ (O.1.size+1) 0],aQ #[b.1,b.2],tM,tM,tM,tM,tM,tM],defers:=[] })
    (λl2 pre y b a' W o o' ⟨bq,h1,h2⟩ j0 h3 h4=>⟨bq,h1.kt hx.o e3.o (KT.put (B:=J Wl.1) o' j0 h3 h4) d3,h2⟩)
    ?assign ?body ?done ?stop
   case assign=>
    rintro l2 pre y ⟨b1,b2⟩ A C K j0 hI hk ⟨m8,g4,⟨g1,c1,e1⟩,⟨g2,c2,e2⟩⟩ ⟨rr,j4⟩ hK;dsimp only at e1 e2 m8;subst e1 e2;rw[m7.o]at hI;have q4:=WI.kt hI hx.o e3.o (hJ.o _) hk d3;have q5:J Wl.1<=C.1.size:=O1 (qZ j4)
    have j5:Bl C (aJ C #[sZ g1 0 (E p+1) c1,sZ g2 0 x.nT c2] 180):=aK;have m9:=KT.zu j5 q5;have d7:=q4.kt hx.o e3.o (hJ.o _) m9 d3;have q6:x.n0<=J A.1:=by have:=hI.fr.lt;have:=e3.o;omega
    dsimp only[qDh];gi_wp2
    exact hK _ _ ((KeepsOthers.alloc _ _).from _) (KpS.zu j5 Oo) ⟨C.1.size,⟨d7.kp,d7.fr,d7.dat,BrX.new C _ _,A,hI.j,(hk.mono d5).trans (m9.mono d5),q6,m8.zz j5⟩,g4,⟨g1,c1,rfl⟩,⟨g2,c2,rfl⟩,rfl⟩
   case body=>
    rintro l2 pre y ⟨b1,b2⟩ a' W j0 ⟨rr,j4⟩ ⟨bq,M,g4,⟨g1,c1,e1⟩,⟨g2,c2,e2⟩,rfl⟩;dsimp only at e1 e2 M;subst e1 e2;have c7:=M.bx.c0;have s6:=M.bx.c1;have c4:=M.fr.c4;have c5:aC W (J Y.1+1+1) 0 (.func (.yield l) #[] #[]):=M.fr.c5;have c6:aC W (J Y.1+1+1+1) 0 (oB nF):=M.fr.c6;have f6:W.frozen? (az (J Y.1+1+1+1) 0)=false:=M.fr.f6;have s7:=ay M;have r7:Tryz.prog.follows .mixedOrders:=Kl;have j1:(1:Int)<=(((m+1:Nat)):Int):=Oo;have s8:=d2.o.2.2;have j2:(1:Int)<=ch:=Oo;have j3:(((m+1:Nat)):Int)<=(ch:Int):=Oo;have r8:=qZ j4;have n3:x.r<J W.1:=Oo;have d8:Bl W W.drew:=eB.drew;have hkd:KT x.n0 W W.drew:=KT.zu d8 Oo;have KW:Hh (∀o c,(0<m->o=oh+1)->m<=c->Cl 122 #[aQ #[sZ g1 0 (E p+1) c1,sZ g2 0 x.nT c2],sZ hb o m c,.func (.yield l) #[] #[]] W.drew λe V=>∃r:Bool,e=rE (oB r)/\Hh ((r/\iJ (ps++[p]++pre.flatMap (λy=>zH nxt m (p++[y]))++zH nxt m (p++[y])) V/\KpS x (λk=>k=l) W.drew V)\/(r=nF/\Jx V/\KpS x (λk=>k=l) W.drew V))):=λo c h1 h2=>by
     have⟨A,q7,q8,q9,r3⟩:=M.src;have d9:E (p++[y])=E p+1:=Ss;have g9:=l7.o;refine Calls.mono (R:=WkE x l iJ Jx (ps++[p]++pre.flatMap (λy=>zH nxt m (p++[y]))++zH nxt m (p++[y])) W.drew) ?_ (λe V h=>by
      rcases h with ⟨rfl,h4,h5⟩|⟨rfl,h4,h5⟩;exact⟨true,rfl,ay (.inl ⟨rfl,h4,h5⟩)⟩;exact⟨false,rfl,ay (.inr ⟨rfl,h4,h5⟩)⟩)
     refine ih.o m rfl (p++[y]) _ A W.drew _ _ _ (by rw[d9];omega) (qHi k9.o g4) (k3.o p b9 hd.o y (g4.subset Ss)) q9 q7 (q8.trans hkd) (M.dat.kt hkd hx.o) (r3.zz d8) ⟨g1,c1,by rw[d9]⟩ ⟨hb,o,c,d2.o.1,by rw[d9,show no-(E p+1)=m by omega],λh3=>?_,by rw[d9];omega⟩;rw[d9]at h3 |-;rw[h1 Oo,i7.o]
    have n4:Hh (∀V,iJ (ps++[p]++pre.flatMap (λy=>zH nxt m (p++[y]))++zH nxt m (p++[y])) V->KpS x (λk=>k=l) W.drew V->KeepsFrom (J Wl.1) W V/\KpB x l l2 W V/\II (pre++[y]) V):=λV h1 h2=>by
     rw[m7.o];have h3:=(KpS.zu d8 n3).trans h2;refine⟨h3.keeps hx.o M.dat.ty d5 (O1 hl.o),h3.sub λk hk=>.inl hk,?_,M.kp.trans h3,M.fr.kp h3 hx.o M.dat.ty e3.o,M.dat.kp h3 hx.o⟩;show iJ (ps++[p]++(pre++[y]).flatMap λy=>zH nxt m (p++[y])) V;rw[dM,flatMap_singleton,<-dN];exact h1
    have g7:Hh (∀V,Jx V->KpS x (λk=>k=l) W.drew V->aC V (J Y.1+1+1+1) 0 (oB nF)/\V.frozen? (az (J Y.1+1+1+1) 0)=nF/\KeepsFrom (J Wl.1) W (sC V (J Y.1+1+1+1) 0 (oB nF))/\IX .ret (sC V (J Y.1+1+1+1) 0 (oB nF))):=λV h1 h2=>by
     have h3:=(KpS.zu d8 n3).trans h2;have h4:=M.fr.kp h3 hx.o M.dat.ty e3.o;have⟨h5,h6⟩:=h4.set nF;have h7:=(M.kp.trans h3).kt (h6.mono Oo) (by have:=e3.o;have:=k7.o;omega);rw[q3.o];refine⟨h4.c6,h4.f6,?_,rfl,k4.o _ _ h1 (h6.mono (O1 e3.o)),h7,h5.c6⟩;have h8:=h3.keeps hx.o M.dat.ty d5 (O1 hl.o);exact⟨bM h8.size h6.O.size,λk o hk h0 ho=>(eG (by show k≠J Y.1+3;omega)).trans (h8.same k o hk h0 ho)⟩
    clear M d8 hkd a9 d0 f9;by_cases hc1:ch=1
    .have n5:m=0:=Oo;change Hh _ at n5;gi_wp2
     gi_region_with_o (refine⟨trivial,rfl,?_⟩;refine(CallsIn.inRound l2 (nW.2 (KW.o oh 0 (λh=>O1 n5.o) (O1 n5.o)))).mono ?_;rintro e V ⟨rb,rfl,j6⟩)
     all_goals(first
      |(rcases j6.o with ⟨rfl,k0,b7⟩|⟨rfl,e0,b7⟩
        .have⟨p1,p2,p3⟩:=n4.o V k0 b7
         gi_wp2
         exact⟨p1,p2,p3⟩
        obtain⟨s1,s2,p1,p2⟩:=g7.o V e0 b7
        gi_wp2
        exact⟨p1,trivial,p2⟩))
    have g8:m<=ch-1:=Oo;change Hh _ at g8;gi_wp2
    gi_region_with_o (refine⟨trivial,rfl,?_⟩;refine(CallsIn.inRound l2 (nW.2 (KW.o (oh+1) (ch-1) (λ_=>rfl) g8.o))).mono ?_;rintro e V ⟨rb,rfl,j6⟩)
    all_goals(first
     |(rcases j6.o with ⟨rfl,k0,b7⟩|⟨rfl,e0,b7⟩
       .have⟨p1,p2,p3⟩:=n4.o V k0 b7
        gi_wp2
        exact⟨p1,p2,p3⟩
       obtain⟨s1,s2,p1,p2⟩:=g7.o V e0 b7
       gi_wp2
       exact⟨p1,trivial,p2⟩))
   case done=>
    intro D W hD hI hK;rw[a9]at hI;have r5:D≠J Y.1+3:=Oo;have⟨hs1,hs2⟩:=hI.fr.set true;have n7:(sC W (J Y.1+1+1+1) 0 (oB true)).1[D]?=Q (.deferred (Q [])):=(eG r5).trans hK;have hp:=KT.put (B:=J Y.1) (.deferred wH) Oo n7 rfl;have n8:=(hs2.mono Oo).trans hp;have r6:aC ((sC W (J Y.1+1+1+1) 0 (oB true)).putObj D (.deferred wH)) (J Y.1+1+1+1) 0 (oB true):=(bF (w:=sC W (J Y.1+1+1+1) 0 (oB true)) (a:=az (J Y.1+1+1+1) 0) (tP (by show J Y.1+1+1+1≠D;omega))).trans hs1.c6;have a3:=ay (l4.o _ (by
     have h9:=hJ.o _ _ _ hI.j (n8.mono e3.o);have e9:ps++zH nxt (m+1) p=ps++[p]++(nxt p).flatMap λy=>zH nxt m (p++[y]):=by rw[dN];rfl
     rw[e9];exact h9) (hI.kp.kt n8 (by have:=e3.o;have:=k7.o;omega)))
    have w6:aC W (J Y.1+1+1+1) 0 (oB nF):=hI.fr.c6;have wf:W.frozen? (az (J Y.1+1+1+1) 0)=false:=hI.fr.f6;simp only[Exit.inBlock,Exit.then];clear hI a9 d0 f9 hs1 hs2;go_wp2_with fail;exact⟨Ss,.inl ⟨D,_,rfl,tF n7,oB true,by simp[results,results122,go_sem,r6],a3.o⟩⟩
   case stop=>
    intro D c W hD hI hK;rw[d0]at hI;obtain⟨rfl,h1,h2,h3⟩:=hI;have hp:=KT.put (B:=J Y.1) (.deferred wH) Oo hK rfl;have r6:aC (W.putObj D (.deferred wH)) (J Y.1+1+1+1) 0 (oB nF):=(bF (w:=W) (a:=az (J Y.1+1+1+1) 0) (tP (by show J Y.1+1+1+1≠D;omega))).trans h3;have a3:=ay (l5.o _ (k4.o _ _ h1 (hp.mono e3.o)) (h2.kt hp (by have:=e3.o;have:=k7.o;omega)));clear h1 h2 h3 a9 d0 f9;gi_wp2
    exact⟨Ss,.inl ⟨D,_,rfl,tF hK,oB nF,by simp[results,results122,go_sem,r6],a3.o⟩⟩
 have r6:=(a5.o nF).2.2;have a3:=ay (l5.o _ (k4.o _ _ m1 (a5.o nF).1) (a5.o nF).2.1);clear a4;gi_wp2
 go_wp2_with fail;exact⟨oB nF,by simp[results,results122,go_sem,r6],a3.o⟩
def VD x(O:x.Ok)nxt no(V:JMx x nxt no)(I:∀p,E p<no->x.Hd p->∀y∈nxt p,x.Hd (p++[y]))l(hl:l<x.n0)(hG:LgG x nxt no l)(tot:LL)iJ K
 (hJ:∀s X Y,iJ s X->KT x.n0 X Y->iJ s Y) (M:∀X Y,K X->KT x.n0 X Y->K Y)
 (hY:∀ps p vp X Y,iJ ps X->KT x.n0 X Y->oW Y (J X.1) 3 1 vp (E p) (p.map ai)->E p<=no->(∃g c,vp=sZ g 0 (E p) c)->ps++[p] <+:tot->YieldAt Fence.wide 0 wD l #[vp] Y λe iZ=>(e=rE (oB true)/\iJ (ps++[p]) iZ/\KpS x (λk=>k=l) Y iZ)\/(e=rE (oB nF)/\K iZ/\KpS x (λk=>k=l) Y iZ)):
 ∀m,WkC x nxt no l tot iJ K m
 |0=>U4 x O nxt no V I l hl hG tot iJ K hJ M hY 0 λm' h=>Oo
 |m+1=>U4 x O nxt no V I l hl hG tot iJ K hJ M hY (m+1) λm' h=>by
  obtain rfl:m'=m:=Oo;exact VD x O nxt no V I l hl hG tot iJ K hJ M hY m'
end
section
variable {vs ws:LI}{rows:LL}{tl:List TbV}{xs ys:LV}{B g g0 g1 g2 i j k n q c I:Nat}{f:NN}{t:TbV}{v x y v1 v2 vp vb vt vo:oV}{W W' w M w3 w':oX}
def qDd{M O n1 n2}(h1:oW W B M 1 v1 n1 xs)(h2:oW W B O 1 v2 n2 ys)(K:M≠O):v1.ownBlock=wH\/v1.ownBlock≠v2.ownBlock:=by
 rcases h1.2 with ⟨rfl,-⟩|⟨g,cap,cur,rfl,-,hg,-⟩;exact Or.inl rfl;refine Or.inr λe=>?_;rcases h2.2 with ⟨rfl,-⟩|⟨g',V,a3,rfl,-,I,-⟩;cases e
 simp only[wN,oI]at e;subst e;rw[hg]at I;simp only[oI,iL]at I;exact K I.2.1
def RtS.P{rl cs ca o np}(hB:Bl w M)(a4:BrX M (J w.1) sn sn)(a3:BrX M (J w.1+2) vp vb)(a5:M.ownsRow (J w.1) 3 1 vp np xs)(O:RtS M (J w.1) (J w.1+2) vb rl cs)
 (hq:Bl M W) (hT:TrO M.1.size W rows ca) (hg:(S W o).grownBy w3 vb.ownBlock) (I:oW w3 (J w.1) 183 1 (sZ g 0 (E rl+1) c) (E rl+1) (cs.map Value.pointer++[.pointer ca])) (a6:vb.ownBlock=Q g\/g=J (S W o).1):
 Bl w (sW w3 (az (J w.1+2) 1) (sZ g 0 (E rl+1) c))/\BrX (sW w3 (az (J w.1+2) 1) (sZ g 0 (E rl+1) c)) (J w.1) sn sn/\BrX (sW w3 (az (J w.1+2) 1) (sZ g 0 (E rl+1) c)) (J w.1+2) vp (sZ g 0 (E rl+1) c)/\oW (sW w3 (az (J w.1+2) 1) (sZ g 0 (E rl+1) c)) (J w.1) 3 1 vp np xs/\RtS (sW w3 (az (J w.1+2) 1) (sZ g 0 (E rl+1) c)) (J w.1) (J w.1+2) (sZ g 0 (E rl+1) c) (rl++[rows]) (cs++[ca]):=by
 have V:=qB O.z hq;have x5:=(a3.zz hq).grown V Dd hg;refine⟨?_,?_,?_,?_,RtS.push O hB.size a3.lt hq hT hg I a6 (λe=>(own_ne I ⟨_,x5⟩ Dd) (by rw[e];rfl))⟩;exact((qC (bt hB hq) o).grown hg (qC (bt hB hq) o).size λk K=>(O.z.lt k K).1).setCell (by show J w.1<=J w.1+2;omega) _;exact(eG (by show J w.1≠J w.1+2;omega)).trans ((a4.zz hq).grown V Dd hg);unfold BrX;rw[eN x5];rfl;have h1:=(qB a5 hq).alloc o;have h2:=qD h1 λk K=>hg.block k (h1.lt k K).2 (λe=>by
  rcases qDd h1 (V.alloc o) (Dd)with h3|h3;rw[h3]at K;exact absurd K Ss;exact h3 (K.trans e))
 refine qD h2 λk K=>eG λe2=>?_;exact own_ne h2 ⟨_,x5⟩ Dd (by rw[K];exact congrArg _ e2.symm)
def TR.keepB{D N0 N1 f g0 g1}(h:TR W B D N0 N1 f g0 g1)(K:BrX W k x y)(M:∀j,j≠k->W'.1[j]?=W.1[j]?):TR W' B D N0 N1 f g0 g1:=
 ⟨λp I=>(M _ λe=>by
  have:=(h.i p I).symm.trans (e ▸ K);simp at this).trans (h.i p I),h.low,λp I=>qD (h.o0 p I) λg O=>M g λe=>own_ne (h.o0 p I) ⟨_,K⟩ Dd (by rw[O,e]),λp I=>qD (h.o1 p I) λg O=>M g λe=>own_ne (h.o1 p I) ⟨_,K⟩ Dd (by rw[O,e]),h.inj,h.a0,h.a1⟩
def TrO.keepB{c}(h:TrO B W rows c)(I:BrX W k x y)(K:∀j,j≠k->W'.1[j]?=W.1[j]?):TrO B W' rows c:=by
 rcases h with h|⟨M,D,N,f,g0,g1,O,V,h4,h5⟩;exact .inl h;exact .inr ⟨M,D,N,f,g0,g1,O,V,h4.keepB I K,h5⟩
def qAf o(h:ITs w vt tl)(ho:IS w vo o)(hl:E tl<=1000)(k6:E o<=1000)(k7:∀t∈tl,qW t):
 Cl 120 #[vt,vo] w λe w'=>∃(g c:Nat) (vb:oV) (cs:List (OA)),e=rE (aQ #[sZ g 0 0 c,vb])/\oW w' (J w.1) 3 1 (sZ g 0 0 c) 0 []/\oW w' (J w.1) 183 1 vb (E tl) (cs.map Value.pointer)/\E cs=E tl/\(∀t,t<E tl->TrO (J w.1) w' (U (tl.map λt=>(sdT o t).x) t []) (U cs t wH))/\Bl w w':=by
 obtain⟨i0,hi,n5,n6,n7⟩:=aX Tryz.infoInt;obtain⟨iP,hj,n8,n9,o3⟩:=aX Tryz.infoTriP;obtain⟨o4,ct,rfl,hc⟩:=h;have d9:Hh (∀j,j<E tl->qb (U tl j qA).e/\TvJ (U tl j qA)):=ay λj hj=>by
  have h1:=k7 (U tl j qA) (by rw[gD,gE hj];exact gM _);exact⟨(qL h1).1,XW h1⟩
 have HC:Hh (∀W,Bl w W->∀j,j<E tl->∃b oo,o4=Q (az b oo)/\TabAt W b (oo+j*3) (U tl j qA)):=ay λW hW j hj=>by
  rcases hc with h0|⟨b,oo,rfl,h⟩;omega;exact⟨b,oo,rfl,(h j hj).zz hW⟩
 obtain⟨ao,co,rfl,k8⟩:=ho;have e3:Hh (∀W,Bl w W->∀j,j<E o->∃b oo,ao=Q (az b oo)/\aC W b (oo+j) (ai (U o j 0))):=ay λW hW j hj=>by
  rcases k8 with h0|⟨b,oo,rfl,h⟩;omega;exact⟨b,oo,rfl,xE hW (h j hj)⟩
 obtain⟨RL,b9⟩:=Ex (λj=>(tl.take j).map λt=>(sdT o t).x);have k9:Hh (RL 0=[]):=ay (by rw[b9];rfl);have e4:Hh (∀j,j<E tl->RL (j+1)=RL j++[(sdT o (U tl j qA)).x]):=ay λj hj=>by
  rw[b9];show(tl.take (j+1)).map _=(tl.take j).map _++_;rw[tA,gE hj,mA,gD,gE hj];rfl
 have a8:Hh (∀j,j<=E tl->E (RL j)=j):=ay λj hj=>by rw[b9];show E ((tl.take j).map _)=j;rw[lM,bZ];omega
 have i7:Hh (RL (E tl)=tl.map λt=>(sdT o t).x):=ay (by rw[b9];show(tl.take (E tl)).map _=_;rw[tL]);have e5:Hh (∀vs i,i<E o->plO vs (o.take (i+1))=plO vs (o.take i)++(if U o i 0∈vs then [(bsQ vs (U o i 0):Int)] else [])):=ay λvs i hi=>by rw[qy hi,qFv]
 have c7:Hh (∀vs,plO vs (o.take (E o))=plO vs o):=ay λvs=>by rw[tL]
 have e6:Hh (∀vs i,E (plO vs (o.take i))<=i):=ay λvs i=>by
  unfold plO;rw[lM];exact bM (dH _ _) (by rw[bZ];omega)
 have i8:Hh (∀(t:TbV),t.e.Pairwise (·< ·)->srt (xC t.x (plO t.e o))=(sdT o t).x):=ay λt ht=>by rw[qFw ht];rfl
 obtain⟨n,hn⟩:=Ex (E tl);rw[<-hn]at hl HC d9 e4 a8 i7 |-;clear hn hc k7 b9 k8;have o5:=ay k6;obtain⟨no,l0⟩:=Ex (E o);rw[<-l0]at k6 e3 e5 c7 |-;clear l0;obtain⟨W1,i9⟩:=Ex (S (S (aJ w #[sn,sn] 180) (eZ #[] 3)) (eZ #[sZ (J w.1+1) 0 0 0,sn] 180));have a9:Hh (Bl w W1/\BrX W1 (J w.1) sn sn/\BrX W1 (J w.1+2) (sZ (J w.1+1) 0 0 0) sn/\oW W1 (J w.1) 3 1 (sZ (J w.1+1) 0 0 0) 0 []/\RtS W1 (J w.1) (J w.1+2) sn [] []):=ay (by
  rw[i9];have b1:Bl w (aJ w #[sn,sn] 180):=qC eB _;have b2:Below (J (aJ w #[sn,sn] 180).1) (aJ w #[sn,sn] 180) (S (aJ w #[sn,sn] 180) (eZ #[] 3)):=qC eB _;have b3:∀o,Below (J (S (aJ w #[sn,sn] 180) (eZ #[] 3)).1) (S (aJ w #[sn,sn] 180) (eZ #[] 3)) (S (S (aJ w #[sn,sn] 180) (eZ #[] 3)) o):=λo=>qC eB _;refine⟨bt b1 (bt b2 (b3 _)),((BrX.new w _ _).zz b2).zz (b3 _),?_,?_,⟨eK,rfl,λt ht=>by simp at ht⟩⟩;have:=BrX.new (S (aJ w #[sn,sn] 180) (eZ #[] 3)) (sZ (J w.1+1) 0 0 0) sn;rwa[size_alloc,size_alloc]at this;have:=oM (S w (eZ #[sn,sn] 180)) (e:=3) (size:=1) (base:=J w.1) #[] 0 Ss Dd rfl;rw[size_alloc]at this;exact qB this (b3 _))
 go_enter func120,ntmps120;go_upto_region 2 with fail;rw[<-i9];clear i9;go_wp2;go_loopw [17] (λt wr=>∃(j:Nat),j<=n/\t=ai j/\Hh (∃vb cs,Bl w wr/\BrX wr (J w.1) sn sn/\BrX wr (J w.1+2) (sZ (J w.1+1) 0 0 0) vb/\oW wr (J w.1) 3 1 (sZ (J w.1+1) 0 0 0) 0 []/\RtS wr (J w.1) (J w.1+2) vb (RL j) cs)) (mZ n);exact⟨0,nZ _,rfl,ay ⟨_,[],a9.1,a9.2.1,a9.2.2.1,a9.2.2.2.1,by rw[k9.o];exact a9.2.2.2.2⟩⟩;clear a9 k9;obtain⟨j,j0,rfl,HT⟩:=hrel;obtain⟨vb,cs,hB,l1,l3,l4,l5⟩:=HT.o;have HB:=ay hB;have O:=ay l1;have b7:=ay l3;have e7:=ay l4;have a3:=ay l5;clear HT hB l1 l3 l4 l5;by_cases j1:j<n
 .have i1:=aV j1;obtain⟨b,oo,ea,v0,v1,v2,c0,c1,c2,hI⟩:=HC _ HB j j1;subst ea;obtain⟨g7,l6⟩:=d9 j j1;have l7:=ay (e4 j j1);have j2:=a8 j j0;generalize U tl j qA=tb at *;have c8:=ay (xK g7);have c9:=ay l6;obtain⟨W3,b8⟩:=Ex (S wr (eZ #[v0,v1,v2] 58));have j3:Bl wr W3:=by rw[b8];exact(bJ _ _).alloc (nR _) _
  have e8:Hh (TX W3 (J wr.1) v0 v1 v2):=ay (by rw[b8];exact TX.zw _ _ _ _);have j4:=ay (hI.zz j3);have e9:=ay j3;obtain⟨a0,k0,e0,-⟩:=hI.e;obtain⟨a1,k1,e1,-⟩:=hI.x;obtain⟨a2,k2,e2,-⟩:=hI.k;subst e0 e1 e2;clear hI g7 l6 j3 HC d9;have KB:=ay λW v hW=>by
   have:=ZO W v (j4.o.zz hW).e (O1 c9.o.e) (jM (jP c8));rwa[qHj c8.o]at this
  have f7:=ay λW v hW hv=>by
   have:=Z7 W v (plO tb.e o) (j4.o.zz hW).x hv (O1 c9.o.n) (by have h1:=e6.o tb.e no;rw[c7.o]at h1;omega) (λr hr q hq=>by rw[c9.o.C r hr];exact qI9 c8.o q hq);rwa[i8.o tb c8.o]at this
  have KT:Hh (∀W v uo,RQ W (J W3.1) v uo (sdT o tb).x->Bl W3 W->Cl 128 #[v] W λe w'=>∃c,e=rE (.pointer c)/\TrO (J W3.1) w' (sdT o tb).x c/\Bl W w'):=ay λW v uo hQ hW=>by
   apply (XK W v (sdT o tb).x (hQ.rs.iss eB) (uI o tb).sl (bM (Qz o tb) (O1 c9.o.n)) (λr hr=>by rw[(uI o tb).C r hr];exact bM (j7 _ _) o5.o)).mono;rintro e w' ⟨c,rfl,h1,h2⟩;refine⟨c,rfl,?_,h2⟩;rcases h1 with ⟨h3,h4⟩|⟨h3,root,h4,D,N,f,g0,g1,h5,h6,h7,h8,h9⟩;exact Or.inl ⟨h3,h4⟩;exact Or.inr ⟨h3,D,N,f,g0,g1,by rw[h7];exact h4,h5,h6.zx hW.size,h8⟩
  have g8:=ay λi hi=>e5.o tb.e i hi;have g9:=ay (c7.o tb.e);have i3:=ay λi=>e6.o tb.e i;have o6:J W3.1<=J W3.1:=eA;generalize E tb.k=l2 at *;obtain⟨nr,l8⟩:=Ex (E tb.x);rw[<-l8]at f7 e8 b8 c1;clear l8;obtain⟨n0,hn0⟩:=Ex (E tb.e);rw[<-hn0]at KB e8 b8 c0;clear hn0;obtain⟨SR,l9⟩:=Ex ((sdT o tb).x);rw[<-l9]at f7 KT l7;clear l9 e4 e5 c7 e6 i8 c9 c8 j4 a8 o6;go_upto_region 5 with fail;rw[<-b8];clear b8 c0 c1 c2;generalize wr=wo at *;go_wp2;go_loopw [8,23] (λv8 t wr=>∃(i:Nat) (vq:oV),i<=no/\t=ai i/\vq=v8/\Hh (Bl W3 wr/\oW wr (J W3.1) 3 1 vq (E (plO tb.e (o.take i))) ((plO tb.e (o.take i)).map ai))) (λ_ t _=>no-(intOf t).toNat);exact⟨0,_,nZ _,rfl,rfl,ay ⟨eB,eK⟩⟩;obtain⟨i,vq,p4,rfl,rfl,HT⟩:=hrel;by_cases i4:i<no
  .have i2:=aV i4;obtain⟨bo,qo,ea,e1⟩:=e3.o wr (bt (bt HB.o e9.o) HT.o.1) i i4;subst ea;have f8:=ay (KB.o wr (U o i 0) HT.o.1);have d0:=(e8.o.zz HT.o.1).c0;have f9:=ay (g8.o i i4);have o7:=i3.o i;generalize U o i 0=ov at *;by_cases V:ov∈tb.e
   .rw[fD V]at f8;rw[fE V]at f9;generalize bsQ tb.e ov=bq at *;clear V;obtain⟨pl,d1⟩:=Ex (E (plO tb.e (o.take i)));have i5:=ay d1;rw[<-d1]at o7;clear d1;go_wp2_with (first
     |(go_at_call 158;apply f8.o.mono;rintro e w5 ⟨rfl,d5,rfl⟩;have j5:oW (wr.drewN d5) (J W3.1) 3 1 vq pl ((plO tb.e (o.take i)).map ai):=(by rw[i5.o];exact HT.o.2);have j6:=rB HT.o.1 d5;have hs5:=j6.size)
     |(at_builtin;refine apL rfl rfl underlying24 Tryz.infoInt (j5.alloc _) rfl rfl (qH _ _ _) (bM hs5 Ss) ?_;intro g6 o8 w6 d2 a6 m0 m1)
     |fail)
    have HN:Hh (Bl W3 w6/\oW w6 (J W3.1) 3 1 (sZ g6 0 (pl+1) o8) (E (plO tb.e (o.take (i+1)))) ((plO tb.e (o.take (i+1))).map ai)):=ay ⟨grB (qC j6 _) (j5.alloc _) a6,by rw[f9.o,lA,lS,mA,<-i5.o];exact d2⟩;clear d2 a6 m0 m1 j5 j6 hs5;go_roundw;exact⟨i+1,_,Oo,Gg,rfl,HN⟩;exact Im
   rw[fC V]at f8;rw[fF V,dU]at f9;clear V;go_wp2_with (go_at_call 158;apply f8.o.mono;rintro e w5 ⟨rfl,d5,rfl⟩);go_roundw;exact⟨i+1,_,Oo,Gg,rfl,ay ⟨rB HT.o.1 _,by rw[f9.o];exact HT.o.2⟩⟩;exact Im
  obtain rfl:i=no:=Oo;have i2:=aY i;rw[g9.o]at HT;have d3:=(b7.o.zz e9.o).zz HT.o.1;have i6:=e8.o.zz HT.o.1;have r0:eQ wr.drew (az (J w.1+1+1) 1)=Q vb:=d3.c1;have r1:eQ wr.drew (az (J wo.1) 1)=Q (Z a1 nr k1):=i6.c1;have k3:=ay d3;have o9:Bl wr wr.drew:=eB.drew;have m2:=ay (f7.o wr.drew vq HT.o.1.drew (qN HT.o.2));have g4:=ay (bt e9.o HT.o.1);have m3:=HT.o.1.size;have p5:=HB.o.size;have m4:=e9.o.size;have d4:Hh (∀W,Bl wo W->oW W (J w.1) 183 1 vb j (cs.map Value.pointer)):=ay λW hW=>by have:=(a3.o.zz hW).z;rwa[j2]at this
  have m5:Hh (∀W v uo,RQ W (J wr.1) v uo SR->Bl wr W->Cl 128 #[v] W λe w'=>∃c,e=rE (.pointer c)/\TrO (J wo.1) w' SR c/\Bl W w'):=ay λW v uo h1 h2=>(KT.o W v uo (h1.zx m3) (bt HT.o.1 h2)).mono λe w' ⟨c,h3,h4,h5⟩=>⟨c,h3,by
   rcases h4 with h4|⟨h4,D,N,f,g0,g1,h6,h7,h8,h9⟩;exact Or.inl h4;exact Or.inr ⟨h4,D,N,f,g0,g1,h6,h7,h8.zx m4,h9⟩,h5⟩
  have g5:Hh (∀W,Bl wr W->eQ W (az (J w.1+1+1) 1)=Q vb):=ay λW hW=>(k3.o.zz hW).c1;clear d3 i6 f7 KT KB e3 g8 g9 i3;go_upto_region 13 with fail;go_region_law (first
   |(refine step_append_lies _ Fl _ _ _ Fl (J w.1) 183 iP (.pointer wH) 1 8 underlying178 hj n8 n9 o3 rfl Dd vb j _ Fl ((d4.o _ (bt g4.o I)).alloc _) (az m6.1.size 0) 1 1 [.pointer m7] Fl Fl (qH _ _ _) Hu Dd Um Oo (by have:=I.size;simp;omega) _ rfl ?_;intro a4 K a5 a7 M d6 k4;have d7:=(k3.o.zz I).grown (d4.o _ (bt g4.o I)) Dd M;have p1:eQ a5 (az (J w.1+1+1) 1)=Q vb:=d7.c1;have f48:a5.frozen? (az (J w.1+1+1) 1)=false:=d7.L 1)
   |(go_simp;go_at_call 159;apply m2.o.mono;rintro e m8 ⟨v45,p2,rfl,m9,k5⟩;have d8:=bt o9 k5;have p6:=g5.o m8 d8)
   |(go_simp;go_at_call 128;apply (m5.o m8 v45 p2 m9 d8).mono;rintro e m6 ⟨m7,rfl,n3,n4⟩;have I:=bt d8 n4;have p7:=g5.o m6 I;have p3:=λob=>g5.o _ (qC I ob))
   |fail)
  all_goals(
   have HN:Hh (Bl w (sW a5 (az (J w.1+2) 1) (sZ a4 0 (j+1) K))/\BrX (sW a5 (az (J w.1+2) 1) (sZ a4 0 (j+1) K)) (J w.1) sn sn/\BrX (sW a5 (az (J w.1+2) 1) (sZ a4 0 (j+1) K)) (J w.1+2) (sZ (J w.1+1) 0 0 0) (sZ a4 0 (j+1) K)/\oW (sW a5 (az (J w.1+2) 1) (sZ a4 0 (j+1) K)) (J w.1) 3 1 (sZ (J w.1+1) 0 0 0) 0 []/\RtS (sW a5 (az (J w.1+2) 1) (sZ a4 0 (j+1) K)) (J w.1) (J w.1+2) (sZ a4 0 (j+1) K) (RL (j+1)) (cs++[m7])):=ay (by
    rw[l7.o];have:=RtS.P (rl:=RL j) HB.o O.o b7.o e7.o a3.o (bt g4.o I) n3 M (by rw[j2];exact a7) d6;rwa[j2]at this))
  all_goals clear HB O b7 e7 a3 HT g4 d4 m5 g5 k3 a7 M d6 k4 d7 p1 f48
  all_goals try simp only[Exit.inBlock,Exit.then]
  all_goals go_wp2_with fail
  all_goals go_roundw
  all_goals first
   |exact⟨j+1,Oo,Gg,ay ⟨_,_,HN.o⟩⟩
   |exact Im
 obtain rfl:j=n:=Oo;have i1:=aY j;obtain⟨ab,cb,eb⟩:=xT a3.o.z;rw[a8.o j j0]at eb;subst eb;have hW:∀u1 u2,∀q,q≠J w.1->(sW (sW wr (az (J w.1) 0) u1) (az (J w.1) 1) u2).1[q]?=wr.1[q]?:=λu1 u2 q hq=>by rw[bD _ _ _ _ (by exact hq),eG (by exact hq)]
 have HF:Hh (∀u1 u2,oW (sW (sW wr (az (J w.1) 0) u1) (az (J w.1) 1) u2) (J w.1) 3 1 (sZ (J w.1+1) 0 0 0) 0 []/\oW (sW (sW wr (az (J w.1) 0) u1) (az (J w.1) 1) u2) (J w.1) 183 1 (Z ab j cb) j (cs.map Value.pointer)/\E cs=j/\(∀t,t<j->TrO (J w.1) (sW (sW wr (az (J w.1) 0) u1) (az (J w.1) 1) u2) (U (tl.map λt=>(sdT o t).x) t []) (U cs t wH))/\Bl w (sW (sW wr (az (J w.1) 0) u1) (az (J w.1) 1) u2)):=ay λu1 u2=>by
  have h0:=a3.o.z;have h1:=a3.o.C;have h2:=a3.o.el;rw[a8.o j j0]at h0 h1 h2;rw[i7.o]at h2;exact⟨vm e7.o O.o Dd,vm h0 O.o Dd,h1,λt ht=>(h2 t ht wr λ_ _ _ _=>rfl).keepB O.o (hW u1 u2),(HB.o.setCell (by show _<=J w.1;omega) _).setCell (by show _<=J w.1;omega) _⟩
 have r0:eQ wr (az (J w.1+1+1) 0)=Q (sZ (J w.1+1) 0 0 0):=b7.o.c0;have r1:eQ wr (az (J w.1+1+1) 1)=Q (Z ab j cb):=b7.o.c1;have r2:=O.o.c0;have r3:=O.o.c1;have r4:=O.o.L 0;have r5:=O.o.L 1;clear hW a3 i7 a8 e4 d9 HC HB O b7 e7 e6 i8 c7 e5 e3;go_wp2_with fail;refine bodyPost_ret (v:=aQ #[sZ (J w.1+1) 0 0 0,Z ab j cb]) (by simp[results,results120,go_sem,r2,r3]) rfl ?_;obtain⟨h1,h2,h3,h4,h5⟩:=HF.o (sZ (J w.1+1) 0 0 0) (Z ab j cb);exact⟨_,_,_,rfl,h1,cs,h2,h3,λt ht=>(by have:=h4 t ht;rwa[gD,bK,gD]at this),h5⟩
def QD w(h:ITs w vt tl)(hl:E tl<=1099511627776)(hs:∀t∈tl,TvS t):
 aG 84 #[vt] w (oB (tl.all qW)):=by
 obtain⟨b1,ct,rfl,hc⟩:=h;have HC:Hh (∀W,Bl w W->∀j,j<E tl->∃b oo,b1=Q (az b oo)/\TabAt W b (oo+j*3) (U tl j qA)):=λW hW j V=>by
  rcases hc with h0|⟨b,oo,rfl,h⟩;omega;exact⟨b,oo,rfl,(h j V).zz hW⟩
 have HR:Hh (∀j,j<E tl->TvS (U tl j qA)):=λj V=>hs _ (by rw[gD,gE V];exact gM _);have⟨res,I⟩:=Ex (tl.all qW);have HA:Hh (∀j,j<E tl->qW (U tl j qA)=nF->res=nF):=λj V e=>by
  rw[I,all_eq_false];exact⟨_,by rw[gD,gE V]at e;exact gM V,by rw[gD,gE V]at e;simp only[dI]at e;rw[e];simp⟩
 have O:Hh ((∀i,i<E tl->qW (U tl i qA))->res):=λh=>by
  rw[I,aT];intro t ht;obtain⟨i,hi,rfl⟩:=gO ht;have:=h i hi;rwa[gD,gE hi]at this
 rw[<-I];clear I hs;have⟨n,hn⟩:=Ex (E tl);rw[<-hn]at hl HC HR HA O |-;clear hn hc;go_enter func84,ntmps84;go_wp2;go_loopw [7] (λt wr=>∃(j:Nat),j<=n/\t=ai j/\Hh ((∀i,i<j->qW (U tl i qA))/\Bl w wr)) (mZ n);exact⟨0,eC,rfl,ay ⟨λi hi=>Oo,bJ _ _⟩⟩;obtain⟨j,b8,rfl,HT⟩:=hrel;by_cases a3:j<n
 .have i1:=aV a3;have⟨b,oo,ea,v0,v1,v2,c0,c1,c2,hI⟩:=HC _ HT.2 j a3;subst ea;have a4:=ay (HR j a3);have a7:=ay (HA j a3);have⟨W3,K⟩:=Ex (S wr (eZ #[v0,v1,v2] 58));have a5:Bl wr W3:=by rw[K];exact(bJ _ _).alloc (nR _) _
  have a6:Hh (TX W3 (J wr.1) v0 v1 v2):=(by rw[K];exact TX.zw _ _ _ _);have KT:=ay (vQ _ _ _ (hI.zz a5) a4.o.e a4.o.x);have a8:=ay (bt HT.2 a5);obtain⟨a0,k0,e0,-⟩:=hI.e;obtain⟨a1,k1,e1,-⟩:=hI.x;obtain⟨a2,k2,e2,-⟩:=hI.k;subst e0 e1 e2;have ey:ql (U tl j qA).e (U tl j qA).x (U tl j qA).k=qW (U tl j qA):=rfl;rw[ey]at KT;have a9:Hh (qW (U tl j qA)->∀i,i<j+1->qW (U tl i qA)):=λhy i hi=>by
   by_cases e:i=j;rw[e];exact hy;exact HT.1 i Oo
  generalize qW (U tl j qA)=y at KT a7 a9;generalize E (U tl j qA).x=nr,E (U tl j qA).e=n0,E (U tl j qA).k=n2 at *;clear a5 hI HT ey a4;have d0:=a6.o.c0;have d1:=a6.o.c1;have d2:=a6.o.c2;go_upto_region 4 with fail;rw[<-K];clear K c0 c1 c2;cases y
  .have b7:=ay (a7 rfl);go_wp2_with (go_at_call 114;apply KT.o.mono;rintro e w4 ⟨rfl,M⟩);go_ret;exact⟨by rw[b7.o];rfl,bt a8 M⟩
  go_wp2_with (go_at_call 114;apply KT.o.mono;rintro e w4 ⟨rfl,M⟩);have HN:Hh ((∀i,i<j+1->qW (U tl i qA))/\Bl w w4):=⟨a9 (by trivial),bt a8 M⟩;clear M KT;go_roundw;exact⟨j+1,Oo,Gg,HN⟩;exact Im
 obtain rfl:j=n:=Oo;have i1:=aY j;have HY:=ay (O HT.1);go_wp2;go_ret;exact⟨by rw[HY.o];rfl,HT.2⟩
def OwnT.keep(h:OwnT w B g0 g1 g2 vs rows ws f)(hb:∀q,B<=q->q<J w.1->w'.1[q]?=w.1[q]?)(hs:J w.1<=J w'.1):OwnT w' B g0 g1 g2 vs rows ws f:=by
 have I:=h.lt0;have K:=h.lt1;have M:=h.lt3;have hg2:=h.wt.lt;exact⟨h.vr.A (hb _ I Oo) hs,h.rw.A (hb _ Oo Oo) (λi hi=>hb _ (O1 (h.rw.gt i hi)) (h.rw.z i hi).lt) hs,h.wt.A (hb _ Oo hg2) hs,h.lt0,h.lt1,h.lt2,h.lt3⟩
def OwnT.zx{B'}(h:OwnT w B g0 g1 g2 vs rows ws f)(hB:B'<=B):OwnT w B' g0 g1 g2 vs rows ws f:=⟨h.vr,h.rw,h.wt,bM hB h.lt0,h.lt1,h.lt2,h.lt3⟩
def TbCopy(W:oX)(g i:Nat)(t:TbV):Prop:=∃g0 g1 g2 f,eQ W (az g (i*3))=Q (sZ g0 0 (E t.e) (E t.e))/\eQ W (az g (i*3+1))=Q (sZ g1 0 (E t.x) (E t.x))/\eQ W (az g (i*3+2))=Q (sZ g2 0 (E t.k) (E t.k))/\OwnT W (g+1) g0 g1 g2 t.e t.x t.k f
def TbCopy.zz(h:TbCopy W g i t)(hb:Bl W W'):TbCopy W' g i t:=by
 have⟨g0,g1,g2,f,I,K,M,O⟩:=h;exact⟨g0,g1,g2,f,xE hb I,xE hb K,xE hb M,O.zz hb⟩
def TbCopy.set(h:TbCopy W g i t)(hq:q<i*3\/i*3+2<q):TbCopy (sW W (az g q) v) g i t:=by
 have⟨g0,g1,g2,f,I,K,M,O⟩:=h;exact⟨g0,g1,g2,f,(eE Nq).trans I,(eE Nq).trans K,(eE Nq).trans M,
  O.keep (λk V _=>eG (by show k≠g;omega)) (by simp[World.setCell])⟩
structure HalfT(W:oX)(g n j:Nat)(tl:List TbV):Prop where
 any:∀q,q<n*3->∃u,eQ W (az g q)=Q u
 L:∀q,q<n*3->W.frozen? (az g q)=nF
 copy:∀i,i<j->TbCopy W g i (U tl i qA)
def HalfT.zz(h:HalfT W g n j tl)(I:g<J W.1)(hb:Bl W W'):HalfT W' g n j tl:=
 ⟨λq hq=>by obtain⟨u,K⟩:=h.any q hq;exact⟨u,xE hb K⟩,λq hq=>(hb.frozen I).trans (h.L q hq),λi hi=>(h.copy i hi).zz hb⟩
def jf(h:∃u,eQ W (az g q)=Q u):∃u,eQ (sW W (az g I) v) (az g q)=Q u:=by
 have⟨u,K⟩:=h;by_cases e:q=I;subst e;exact⟨v,eJ K⟩;exact⟨u,(eE (by intro M;simp only[aI]at M;omega)).trans K⟩
def HalfT.P(h:HalfT W g n j tl)(M:j<n)(ho:OwnT W (g+1) g0 g1 g2 (U tl j qA).e (U tl j qA).x (U tl j qA).k f):
 HalfT (sW (sW (sW W (az g (j*3)) (Z (Q (az g0 0)) (E (U tl j qA).e) (E (U tl j qA).e))) (az g (j*3+1)) (Z (Q (az g1 0)) (E (U tl j qA).x) (E (U tl j qA).x))) (az g (j*3+2)) (Z (Q (az g2 0)) (E (U tl j qA).k) (E (U tl j qA).k))) g n (j+1) tl where
 any q hq:=jf (jf (jf (h.any q hq)))
 L q hq:=by rw[fS,fS,fS];exact h.L q hq
 copy i hi:=by
  by_cases e:i=j
  .subst e;have⟨u0,c0⟩:=h.any (i*3) Oo;have⟨u1,c1⟩:=h.any (i*3+1) Oo;have⟨u2,c2⟩:=h.any (i*3+2) Oo;have ne:∀(X:oX) (a b:Nat) (v:oV),a≠b->eQ (sC X g b v) (az g a)=eQ X (az g a):=λX a b v hab=>eE (by intro I;simp only[aI]at I;omega);have kp:∀(X:oX) (q:Nat) (v:oV),OwnT X (g+1) g0 g1 g2 (U tl i qA).e (U tl i qA).x (U tl i qA).k f->OwnT (sC X g q v) (g+1) g0 g1 g2 (U tl i qA).e (U tl i qA).x (U tl i qA).k f:=λX q v K=>K.keep (λk O _=>eG (by show k≠g;omega)) (by simp[World.setCell]);refine⟨g0,g1,g2,f,?_,?_,?_,kp _ _ _ (kp _ _ _ (kp _ _ _ ho))⟩;rw[ne _ _ _ _ Oo,ne _ _ _ _ Oo];exact eJ c0;rw[ne _ _ _ _ Oo];exact eJ ((ne _ _ _ _ Oo).trans c1);exact eJ ((ne _ _ _ _ Oo).trans ((ne _ _ _ _ Oo).trans c2))
  exact(((h.copy i Oo).set Oo).set Oo).set Oo
def Uf w(h:ITs w v tl)(hl:E tl<=1048576)(hs:∀t∈tl,TvS t):
 aF 7 #[v] w (sZ (J w.1) 0 (E tl) (E tl)) λw'=>HalfT w' (J w.1) (E tl) (E tl) tl/\J w.1<J w'.1/\Bl w w':=by
 have⟨i0,hi,b8,b9,c7⟩:=aX Tryz.infoTb;obtain⟨c8,ct,rfl,hc⟩:=h;have HC:Hh (∀W,Bl w W->∀j,j<E tl->∃b oo,c8=Q (az b oo)/\TabAt W b (oo+j*3) (U tl j qA)):=λW hW j hj=>by
  rcases hc with h0|⟨b,oo,rfl,h⟩;omega;exact⟨b,oo,rfl,(h j hj).zz hW⟩
 have HR:Hh (∀j,j<E tl->TvS (U tl j qA)):=λj hj=>hs _ (by rw[gD,gE hj];exact gM _);have⟨n,hn⟩:=Ex (E tl);rw[<-hn]at hl HC HR |-;clear hn hc hs;go_enter func7,ntmps7;go_wp2_with (at_make;refine rL _ rfl _ _ 34 rfl _ 58 _ _ 3 underlying34 hi b8 b9 _ _ _ _ n rfl rfl rfl rfl ?b2 ?b3 eA ?_)
 case b2=>rw[c7];omega
 case b3=>unfold maxLen;omega
 intro w0 I M;have a4:J w.1<J w0.1:=(I.lt _ rfl).2;have a8:HalfT w0 (J w.1) n 0 tl:=⟨λq hq=>by
  rw[I.cellAt q hq];exact⟨_,gE (by rw[I.1];exact hq)⟩,λq _=>I.frozenAt q,λi hi=>Oo⟩
 have a9:=ay (And.intro (eB.grown M eA (λj hj=>by cases hj)) (And.intro a4 a8));clear I M a4 a8;go_wp2;go_loopw [4] (λt wr=>∃j:Nat,j<=n/\t=ai j/\Hh (Bl w wr/\J w.1<J wr.1/\HalfT wr (J w.1) n j tl)) (mZ n);exact⟨0,eC,rfl,a9⟩;clear a9;obtain⟨j,hj,rfl,hH⟩:=hrel;have⟨O,a5,V⟩:=hH.o;by_cases a6:j<n
 .have i1:=aV a6;have⟨b,oo,ea,v0,v1,v2,c0,c1,c2,hI⟩:=HC _ O j a6;subst ea;have a3:=ay (HR j a6);have K1:=ay (Jy hI a3.o.e a3.o.x a3.o.k);have c9:=ay O;have b1:=ay V;obtain⟨a0,k0,e0,-⟩:=hI.e;obtain⟨a1,k1,e1,-⟩:=hI.x;obtain⟨a2,k2,e2,-⟩:=hI.k;subst e0 e1 e2;have b7:Hh (∀W g0 g1 g2 f,Bl wr W->OwnT W (J wr.1) g0 g1 g2 (U tl j qA).e (U tl j qA).x (U tl j qA).k f->HalfT (sW (sW (sC W (J w.1) (j*3) (Z (Q (az g0 0)) (E (U tl j qA).e) (E (U tl j qA).e))) (az (J w.1) (j*3+1)) (Z (Q (az g1 0)) (E (U tl j qA).x) (E (U tl j qA).x))) (az (J w.1) (j*3+2)) (Z (Q (az g2 0)) (E (U tl j qA).k) (E (U tl j qA).k))) (J w.1) n (j+1) tl):=λW g0 g1 g2 f hb ho=>
   (b1.o.zz a5 hb).P a6 (ho.zx Oo)
  clear hH O V hI HC a3;generalize E (U tl j qA).x=nr,E (U tl j qA).e=n0,E (U tl j qA).k=n2 at *;go_wp2_with fail;apply K1.o.mono;rintro e w2 ⟨g0,g1,g2,f,rfl,ho,hb⟩;have K:=b1.o.zz a5 hb;have⟨u0,d0⟩:=K.any (j*3) Oo;have⟨u1,d1⟩:=K.any (j*3+1) Oo;have⟨u2,d2⟩:=K.any (j*3+2) Oo;have f0:=K.L (j*3) Oo;have f1:=K.L (j*3+1) Oo;have f2:=K.L (j*3+2) Oo;have HF:=ay (b7 _ _ _ _ f hb ho);have d3:=ay (bt c9 hb);have hs2:=hb.size;clear K hb b7 K1 ho;go_wp2;go_roundw;exact⟨j+1,Oo,Gg,ay ⟨((d3.o.setCell eA _).setCell eA _).setCell eA _,by simp[World.setCell];omega,HF⟩⟩;exact Im
 obtain rfl:j=n:=Oo;have i1:=aY j;have HX:=ay (And.intro V (And.intro a5 O));clear hH O V;go_wp2;go_ret;exact⟨rfl,HX⟩
end
end Go.Proofs.YtfpjpngjikdaoaaGreat
namespace Go.Proofs.YtfpjpngjikdaoaaGreat
open Go.Proofs.Tryz Go.RowKit
variable {o:LI}{tl:List TbV}{B t:Nat}{e:TypeId}{W:oX}{P:Program}{cs:List (OA)}
def mkX(h r v n0:Nat)(tl:List TbV)(o:LI)(f:Nat->LI->Nat)(g0 g1:Nat->LI->oV)(hv:oV)(uh:LV):JX where
 h:=h
 r:=r
 v:=v
 n0:=n0
 nT:=E tl
 H:=λt=>qV o (sdT o (U tl t qA)).m
 D:=λt p=>p=[]\/∃r∈(sdT o (U tl t qA)).x,p <+:r
 N:=λt=>nN (E (sdT o (U tl t qA)).m) (sdT o (U tl t qA)).x
 f:=f
 g0:=g0
 g1:=g1
 hv:=hv
 uh:=uh
 hav:=yI tl o
def Qa(h:t<E tl):U tl t qA∈tl:=by rw[gD,gE h];exact gM _
def qAg(h:t<E tl):sdO o (sdT o (U tl t qA))∈jc tl o:=cC.2 ⟨_,cC.2 ⟨_,Qa h,rfl⟩,rfl⟩
def qEn{s}(h:s∈jc tl o):∃t,t<E tl/\s=sdO o (sdT o (U tl t qA)):=by
 obtain⟨m,I,rfl⟩:=cC.1 h;obtain⟨t,K,rfl⟩:=cC.1 I;obtain⟨i,hi,rfl⟩:=gO K;exact⟨i,hi,by rw[gD,gE hi];rfl⟩
section
variable {h r v n0:Nat} {tl:List TbV} {o:LI} {f:Nat->LI->Nat} {g0 g1:Nat->LI->oV} {hv:oV} {uh:LV}
def VE p:(mkX h r v n0 tl o f g0 g1 hv uh).Hd p↔Hld (jc tl o) p:=by
 constructor;intro hd s hs;obtain⟨t,I,rfl⟩:=qEn hs;exact hd t I;intro hd t I;exact hd _ (qAg I)
def qFy p(hd:(mkX h r v n0 tl o f g0 g1 hv uh).Hd p)y(I:y∈nxJ tl o p):(mkX h r v n0 tl o f g0 g1 hv uh).Hd (p++[y]):=(VE _).2 (((VE _).1 hd).snoc (Qd _ o) I)
def qAh o t:(sdT o t).m=shr o t.e:=rfl
def qEo{p q k}(h:∀i,i<k->p i=q i):plc p k=plc q k:=by
 unfold plc;congr 1;exact filter_congr λi hi=>h i (cJ.1 hi)
def qEp{l:LL}(h:l≠[]):srt l≠[]:=λe=>h (by
 cases l with
 |nil=>rfl
 |cons a l=>
  have:=((zQ _ (a::l) eA).2 a).2 cY;rw[e]at this;cases this)
def qFz(ht:∀t∈tl,TvJ t)(a3:∀t∈tl,t.x≠[])(hc:YP tl o)(hl:E tl<=1000)(a4:E o<=1000):JMx (mkX h r v n0 tl o f g0 g1 hv uh) (nxJ tl o) (E o):=by
 have hT:∀t,t<E tl->TM (sdT o (U tl t qA)).x (λp=>p=[]\/∃r∈(sdT o (U tl t qA)).x,p <+:r) (nN (E (sdT o (U tl t qA)).m) (sdT o (U tl t qA)).x):=λt _=>qDj (uI o _).sl (uI o _).C;refine⟨λt I q hq y=>(hT t I).mem q hq y,λt I q hq=>(hT t I).asc q hq,λt I q _=>?_,hl,a4,by show E (yI tl o)=_;unfold yI;rw[lM],λk M=>?_,λk M=>?_,λp hp hd t I hH=>?_,λp hp hd g hg hH=>?_⟩;have K:=qEz (E (sdT o (U tl t qA)).m) (sdT o (U tl t qA)).x q;have O:=Qz o (U tl t qA);have h4:=(ht _ (Qa I)).n;show E (nN _ _ q)<=1000000;omega
 .show U (yI tl o) k []=plc (λt=>qV o (sdT o (U tl t qA)).m k) (E tl);unfold yI;rw[gD,bK,gE M];show plc _ (E (tl.map TbV.e))=_;rw[lM];refine qEo λi hi=>?_;rw[qAh,ur M];have e1:U (tl.map TbV.e) i []=(U tl i qA).e:=by
   rw[gD,bK,gE hi,gD,gE hi];rfl
  have e2:U o k 0=o[k]:=by rw[gD,gE M];rfl
  rw[e1,e2]
 have⟨t,I,K⟩:=hc k M;obtain⟨i,hi,rfl⟩:=gO I;refine⟨i,hi,?_⟩;show qV o (sdT o (U tl i qA)).m k=true;rw[qAh,ur M,gD,gE hi];exact fD K
 .have a5:E (prt (qV o (sdT o (U tl t qA)).m) p)<E (sdT o (U tl t qA)).m:=(qJE hp).2 hH;have hD:prt (qV o (sdT o (U tl t qA)).m) p=[]\/∃r∈(sdT o (U tl t qA)).x,prt (qV o (sdT o (U tl t qA)).m) p <+:r:=hd t I;have hR:∃r∈(sdT o (U tl t qA)).x,prt (qV o (sdT o (U tl t qA)).m) p <+:r:=by
   rcases hD with K|K;have:(sdT o (U tl t qA)).x≠[]:=qEp (by simpa using a3 _ (Qa I));have⟨r,V⟩:=exists_mem_of_ne_nil _ this;exact⟨r,V,by rw[K];exact nil_prefix⟩;exact K
  have⟨r,V,tail,e⟩:=hR;have a6:=(uI o _).C r V;cases tail with
  |nil=>rw[dU]at e;rw[e]at a5;omega
  |cons y tail=>
   have:=((hT t I).mem _ hD y).2 (.inr ⟨r,V,tail,by rw[<-e];simp⟩);exact length_pos_of_mem this
 have:=XU (Qd _ o) (qAg hg) ((VE p).1 hd) hH;show xy (jc tl o) p=_;rw[this];unfold uH;refine filter_congr λy _=>?_;rw[pL,kP,aT];constructor;intro I t K;obtain⟨i,hi,O,rfl⟩:=y7.1 K;exact fD (I _ (qAg hi) O);intro I s hs K;obtain⟨t,O,rfl⟩:=qEn hs;exact aN (I (t:Int) (y7.2 ⟨t,O,K,rfl⟩))
end
def TR.iff{D D' N I f g0 g1}(h:TR W B D N N f g0 g1)(M:∀p,D p↔D' p)(K:∀p,D p->I p=N p):TR W B D' I I f g0 g1:=by
 have e:=funext λp=>propext (M p);subst e;exact h.same K K
def TrO.tr{t c}(h:TrO B W (sdT o t).x c):((sdT o t).x=[]/\c=wH)\/((sdT o t).x≠[]/\∃f g0 g1,c=Q (az (f []) 0)/\TR W B (λp=>p=[]\/∃r∈(sdT o t).x,p <+:r) (nN (E (sdT o t).m) (sdT o t).x) (nN (E (sdT o t).m) (sdT o t).x) f g0 g1):=by
 rcases h with h|⟨O,D,N,f,g0,g1,V,I,h4,h5⟩;exact .inl h;have M:=qDj (uI o t).sl (uI o t).C;refine .inr ⟨O,f,g0,g1,V,h4.iff I.dom λp K=>?_⟩;refine YM (M.asc p ((I.dom p).1 K)) (I.asc p K) λy=>?_;rw[M.mem p ((I.dom p).1 K) y,I.mem p K y];exact(I.dom _).symm
open Meet
def qDe{t}d w y(h:P.underlying t=Q (.pointer e)):(Op.equalIn (d+1) t (.pointer wH) (.pointer (Q y))).run P w=.ok nF w:=by simp[Op.equalIn,run_underlying h]
def qFx{t}w y(h:P.underlying t=Q (.pointer e)):(binOp .eql t (.pointer wH) (.pointer (Q y))).run P w=.ok (oB nF) w:=by
 simp only[binOp];simp[Op.equal,Op.maxDepth,qDe 9999 w y h]
def XS(cs:List (OA)):Bool:=oD (wH∈cs)
def UC w B n v(h:oW w B 183 1 v n (cs.map Value.pointer))(V:E cs=n)(hl:n<=1099511627776):
 Cl 160 #[v,.pointer wH] w λe w'=>(∃k,e=rE (ai k)/\oD (0<=k)=XS cs)/\w'=w:=by
 have HC:Hh (∀j,j<n->∃b o c,v=sZ b o n c/\aC w b (o+j) (.pointer (U cs j wH))):=λj hj=>by
  rcases h.2 with ⟨rfl,rfl⟩|⟨g,cap,cur,rfl,-⟩;omega;refine⟨g,0,cap,rfl,?_⟩;have:=h.cellAt (j:=j) Oo;rw[cU];rw[gD,gE Oo];refine this.trans ?_;rw[bK,gE Oo];rfl
 obtain⟨a,cap,rfl⟩:=xT h;have⟨res,I⟩:=Ex (XS cs);rw[<-I];change Hh _ at I V;clear h;go_enter func160,ntmps160;go_wp2;go_loop [8] (λt=>∃j:Nat,j<=n/\t=ai j/\Hh (∀i,i<j->U cs i wH≠wH)) (λt=>n-(intOf t).toNat);exact⟨0,eC,rfl,ay (λi hi=>Oo)⟩;obtain⟨j,hj,rfl,K⟩:=hrel;by_cases M:j<n
 .have i1:=aV M;have⟨b,o,c,ea,c1⟩:=HC j M;cases ea
  have fin:U cs j wH=wH->Hh (res):=λe=>I.o.trans (fD (by
   have h1:j<E cs:=by rw[V.o];exact M
   have:U cs j wH∈cs:=by rw[gD,gE h1];exact gM _
   rwa[e]at this))
  have nxt:U cs j wH≠wH->Hh (∀i,i<j+1->U cs i wH≠wH):=λe=>ay λi hi=>by
   by_cases e2:i=j;rw[e2];exact e;exact K i Oo
  clear K;generalize U cs j wH=y at *;cases y with
  |none=>
   have O:=fin rfl;clear fin nxt;go_wp2;go_ret;exact⟨⟨_,rfl,by rw[O.o];simp⟩,rfl⟩
  |some y=>
   have O:=nxt Ss;clear fin nxt;have hq:∀w:oX,(binOp .eql 183 (.pointer wH) (.pointer (Q y))).run wD w=.ok (oB nF) w:=λw=>qFx w y underlying183;go_wp2;go_round;exact⟨j+1,Oo,Gg,O⟩;exact Im
 obtain rfl:j=n:=Oo;have O:=ay (I.o.trans (fC (λhm=>by
  have⟨i,hi,e⟩:=gO hm;exact K i (by rw[<-V.o];exact hi) (by rw[gD,gE hi];exact e))))
 have i1:=aY j;clear K;go_wp2;go_ret;exact⟨⟨_,rfl,by rw[O.o];simp⟩,rfl⟩
def Xf w n{v}(h:oW w B 183 1 v n (cs.map Value.pointer))(I:E cs=n)(hl:n<=1099511627776):
 aF 121 #[v,.pointer wH] w (oB (XS cs)) λw'=>w'=w:=by
 have K:=ay (UC w B n v h I hl);generalize XS cs=res at *;clear h;go_enter func121,ntmps121;go_wp2_with (go_at_call 160;apply K.o.mono;rintro e w' ⟨⟨k,rfl,M⟩,rfl⟩);go_ret;exact⟨rfl,rfl⟩
def qAk(x:JX)p I K(M:I=plc (λt=>x.H t (E p)) x.nT):∀k,k<=x.nh p->E (vX (x.O p) I (λj=>x.f (x.tk p j) (prt (x.H (x.tk p j)) p++[K])) k)=x.nT/\∀t,t<x.nT->((∃j,j<k/\x.tk p j=t)->(vX (x.O p) I (λj=>x.f (x.tk p j) (prt (x.H (x.tk p j)) p++[K])) k)[t]?=Q (.pointer (Q (az (x.f t (prt (x.H t) p++[K])) 0))))/\((¬∃j,j<k/\x.tk p j=t)->(vX (x.O p) I (λj=>x.f (x.tk p j) (prt (x.H (x.tk p j)) p++[K])) k)[t]?=Q (.pointer (Q (az (x.f t (prt (x.H t) p)) 0))))
 |0,_=>⟨x.bel_len p,λt O=>⟨λ⟨j,hj,_⟩=>Oo,λ_=>qAj x p O⟩⟩
 |k+1,hk=>by
  have⟨h1,h2⟩:=qAk x p I K M k Oo;have a3:(U I k 0).toNat=x.tk p k:=by rw[M];rfl
  refine⟨by show E (List.set _ _ _)=_;rw[length_set,h1],λt O=>?_⟩;show(_->((vX (x.O p) I _ k).set (U I k 0).toNat _)[t]?=_)/\(_->((vX (x.O p) I _ k).set (U I k 0).toNat _)[t]?=_);rw[a3];by_cases e:x.tk p k=t;subst e;rw[getElem?_set_self (by rw[h1];exact (x.tk_ok p Oo).1)];exact⟨λ_=>rfl,λhn=>absurd ⟨k,Oo,rfl⟩ hn⟩;rw[getElem?_set_ne e];refine⟨λ⟨j,hj,ej⟩=>(h2 t O).1 ⟨j,?_,ej⟩,λhn=>(h2 t O).2 λ⟨j,hj,ej⟩=>hn ⟨j,Oo,ej⟩⟩;have:j≠k:=λe2=>e (by rw[<-e2];exact ej);omega
def qF5(x:JX)p{M}I(O:M=plc (λt=>x.H t (E p)) x.nT):vX (x.O p) M (λj=>x.f (x.tk p j) (prt (x.H (x.tk p j)) p++[I])) (x.nh p)=x.O (p++[I]):=by
 have⟨h1,h2⟩:=qAk x p M I O _ eA;refine ext_getElem? λt=>?_;by_cases K:t<x.nT
 .rw[qAj x (p++[I]) K,kO];cases hH:x.H t (E p)
  rw[(h2 t K).2 λ⟨j,V,ej⟩=>by have:=(x.tk_ok p V).2.1;rw[ej,hH]at this;cases this];simp;have⟨j,V,ej⟩:=x.tk_all p K hH;rw[(h2 t K).1 ⟨j,V,ej⟩];simp
 rw[gN (by rw[h1];omega),gN (by rw[x.bel_len];omega)]
def qHk(x:JX)p:∀u∈x.O p,u.oneCell':=λu I=>by
 unfold JX.O at I;obtain⟨t,-,rfl⟩:=cC.1 I;rfl
def Jb x(hx:x.Ok){nxt no}(hm:JMx x nxt no)l0 w{bB bH vp vb}p(hp:E p<no)(hd:x.Hd p)(g6:Dat x w)(g7:Brn x x.n0 w vp vb p)(i7:BrX w bB vp vb)(l6:x.n0<=bB)
 (i8:w.1[bH]?=Q (eZ #[U x.uh (E p) tM] 24 (0,0))) (l7:x.n0<=bH) (l8:¬RBk x w bH):
 Gives wD 190 #[pZ bB 0,pZ bH 0] qDh (KpB x l0) (λ_ _ _=>True) (qJA x nxt p) (nxt p) w:=by
 intro l iJ Jx W a8 q7 q8 hJ l9 hY h0;show Calls _ _ #[.func (.yield l) #[] #[],pZ bB 0,pZ bH 0] W _;have⟨tS,m0,m1⟩:=hm.some _ hp;have e9:0<x.nT:=Oo;have m2:x.n0<=J w.1:=O1 i7.lt
 have i9:=g6.kt (KT.zu a8 m2) hx;have a9:=g7.zz a8;have c7:=i7.zz a8;have b7:=(a8.block _ (qZ i8)).trans i8;have I:E (U x.hav (E p) [])=x.nh p:=by rw[hm.hav _ hp];rfl
 have d1:=qN (i9.hq.l (E p) (by rw[hm.hl];exact hp));have f7:x.nh p<=1000:=bM (xq _ _) hm.lT;have d4:0<x.nh p:=by obtain⟨j,K,-⟩:=x.tk_all p m0 m1;omega
 obtain⟨bb,cb,f8,-⟩:=xg a9.O (show 0<x.nT from e9);have⟨ap,cp,m4⟩:=xT a9.pre;have⟨vt,j0⟩:=Ex (U x.uh (E p) tM);rw[<-j0]at b7 d1;have m5:∀t,t<x.nT->eQ W (az bb t)=Q (.pointer (Q (az (x.f t (prt (x.H t) p)) 0))):=λt ht=>by
  have:=a9.O;rw[f8]at this;rw[this.cellAt t Oo];exact qAj x p ht
 have KC:=ay (JZ W bb x.nT cb (x.nd p) ⟨_,_,_,m4⟩ d1 (by rw[I];exact f7)
  (λj K=>by rw[hm.hav _ hp,(x.tk_ok p (by rw[<-I];exact K)).2.2];have:=(x.tk_ok p (j:=j) (by rw[<-I];exact K)).1;omega)
  (λj K=>by rw[hm.hav _ hp,(x.tk_ok p (by rw[<-I];exact K)).2.2];have:=(x.tk_ok p (j:=j) (by rw[<-I];exact K)).1;rw[show((x.tk p j:Int)).toNat=x.tk p j by omega];exact m5 _ this))
 rw[I]at KC;have c9:Hh (∀w1 v1,oW w1 (J W.1) 270 2 v1 (x.nh p) (uF (x.nd p) (λ_=>0) (x.nh p))->Bl W w1->∃cu cc,v1=sZ cu 0 (x.nh p) cc/\LG x (J W.1) w1 bB bH cu cc vp vb vt p (λ_=>0)):=λw1 v1 ho hb=>by
  have hkb:KT x.n0 W w1:=KT.zu hb (O1 a8.size);rcases ho.2 with ⟨-,h2⟩|⟨g,cap,cur,rfl,h3,h4,h5,h6,h7,h8⟩;omega;exact⟨g,cap,rfl,i9.kt hkb hx,a9.zz hb,c7.zz hb,l6,(hb.block _ (qZ b7)).trans b7,l7,λM=>(λM=>l8 ((RBk.eq (a8.block _ (O1 hx.r)) _).1 M)) ((RBk.eq (hkb.O.block _ hx.r) _).1 M),O1 a8.size,ho⟩
 have c0:=c7.c0;have c1:=c7.c1;have c2:eQ W (az bH 0)=Q vt:=by rw[eI b7];rfl
 subst m4;rw[f8]at c1;have m6:∃a n c,vt=Z a n c:=by obtain⟨a,c,e,-⟩:=d1;exact⟨a,_,c,e⟩
 obtain⟨av,nv,cv,rfl⟩:=m6;have KF:Hh (∀cu cc w1,LG x (J W.1) w1 bB bH cu cc (Z ap (E p) cp) vb (Z av nv cv) p (λ_=>0)->Cl 192 #[sZ cu 0 (x.nh p) cc] w1 λe w'=>∃i ga ca,i<x.nh p/\e=rE (Z (Q (az ga 0)) (E (x.vl p i)) ca)/\x.g0 (x.tk p i) (prt (x.H (x.tk p i)) p)=Z (Q (az ga 0)) (E (x.vl p i)) ca/\Bl w1 w'):=λcu cc w1 hL=>by
  have hg:∀j,j<x.nh p->∃ga ca,x.g0 (x.tk p j) (prt (x.H (x.tk p j)) p)=Z (Q (az ga 0)) (E (x.vl p j)) ca:=λj K=>by
   obtain⟨M,h2,-⟩:=x.tk_ok p K;obtain⟨ga,ca,ea,-⟩:=xg ((hL.dat.tr _ M).o0 _ (hd _ M)) (hm.more p hp hd _ M h2);exact⟨ga,ca,ea⟩
  refine(qAi (x.nd p) (λ_=>0) (λj=>slA (x.g0 (x.tk p j) (prt (x.H (x.tk p j)) p))) (λj=>slN (x.g0 (x.tk p j) (prt (x.H (x.tk p j)) p))) (λj=>slC (x.g0 (x.tk p j) (prt (x.H (x.tk p j)) p))) d4 f7 (λj K=>?_) (λj K=>?_)).mono ?_;have⟨g1,g2⟩:=qAe (x.nd p) (λ_=>0) j K;rw[hL.cur.cellAt (j*2) Oo,hL.cur.cellAt (j*2+1) Oo];exact⟨g1,g2⟩;obtain⟨M,h2,-⟩:=x.tk_ok p K;have⟨ga,ca,ea⟩:=hg j K;rw[ea];have:=(hL.dat.tr _ M).c0 (hd _ M);rwa[ea]at this;rintro e w' ⟨i,hi,rfl,hb⟩;have⟨ga,ca,ea⟩:=hg i hi;exact⟨i,ga,ca,hi,by rw[ea];rfl,ea,hb⟩
 have HM:=ay hm;change Hh _ at hJ l9 hY h0 hd hx;have m7:x.n0<=J W.1:=O1 a8.size
 have r3:=ay m7;have m8:=ay f8;have r4:=ay j0;clear j0 I d1 a9 c7 b7 i9 m2 i7 i8 g7 g6 l8 l6 l7 m5 a8 q7 q8 tS m0 m1 e9 f8;clear hm m7;have⟨nh,d5⟩:=Ex (x.nh p);change Hh _ at d5;rw[<-d5]at KC c9 KF f7 d4;have⟨nT,d8⟩:=Ex x.nT;change Hh _ at d8;rw[<-d8]at KC c1;have⟨np,d9⟩:=Ex (E p);change Hh _ at d9;rw[<-d9]at KC c0 c9 KF hp;go_enter func190,ntmps190;go_upto_region 1 with (go_at_call 191;apply KC.o.mono;rintro e w1 ⟨v1,rfl,e0,j1⟩);have⟨cu,cc,e1,j2⟩:=c9 _ _ e0 j1;subst e1;change Hh _ at j1 j2;have n4:=ay (KF _ _ _ j2);clear e0 KC c9 KF c0 c1 c2;go_upto_block 0 with (go_at_call 192;apply n4.o.mono;rintro e w2 ⟨gi,ga,ca,e2,rfl,n5,j3⟩);have j4:=ay (bt j1 j3);have n6:=ay (j2.o.zz hx j3);have r5:=ay n5;have⟨L,hL⟩:=Ex (x.vl p gi);have t3:=ay (And.intro e2 hL);have j5:Hh (nxt p=L.filter λy=>x.all p y):=(by
  obtain⟨M,h2,-⟩:=x.tk_ok p (j:=gi) (by rw[<-d5.o];exact e2);rw[HM.o.nx p (by rw[<-d9.o];exact hp) hd.o _ M h2,hL];refine filter_congr λy _=>?_;exact x.all_eq p y)
 have n7:Hh (L.Pairwise (·< ·)):=(by
  obtain⟨M,h2,-⟩:=x.tk_ok p (j:=gi) (by rw[<-d5.o];exact e2);rw[hL];exact HM.o.asc _ M _ (hd _ M))
 have r6:E L<=1000000:=by
  obtain⟨M,h2,-⟩:=x.tk_ok p (j:=gi) (by rw[<-d5.o];exact e2);rw[hL];exact HM.o.C _ M _ (hd _ M)
 have n8:Hh (∀w3 q,LG x (J W.1) w3 bB bH cu cc (Z ap np cp) vb (Z av nv cv) p q->∀k,k<E L->eQ w3 (az ga k)=Q (ai (U L k 0))):=λw3 q h3 k hk=>by
  obtain⟨M,h2,-⟩:=x.tk_ok p (j:=gi) (by rw[<-d5.o];exact e2);have ho:=(h3.dat.tr _ M).o0 _ (hd _ M);rw[r5.o]at ho;have t4:k<E (x.vl p gi):=by rw[<-hL];exact hk
  rw[ho.cellAt k (by show k<E (x.vl p gi)*1;omega)];show((x.vl p gi).map ai)[k]?=_;rw[<-hL,bK,gE hk,gD,gE hk];rfl
 rw[<-hL];clear j3 n5 hL n4 j1 j2;have⟨nL,j6⟩:=Ex (E L);change Hh _ at j6;rw[<-j6]at n8 r6 |-;have r7:=ay j4.o.size;go_wp2;go_loopw [16] (λt wr=>∃(k:Nat),k<=nL/\t=ai k/\Hh (∃q X,iJ ((L.take k).filter λy=>x.all p y) X/\KT (J W.1) X wr/\LG x (J W.1) wr bB bH cu cc (Z ap np cp) vb (Z av nv cv) p q/\∀j,j<nh->q j<E (x.vl p j)/\(k<nL->∀m,m<q j->U (x.vl p j) m 0<U L k 0))) (mZ nL)
 case atStart=>exact⟨0,eC,rfl,ay ⟨_,W,h0,KT.zu j4 eA,n6,λj K=>⟨by
  obtain⟨M,h2,-⟩:=x.tk_ok p (j:=j) (by rw[<-d5.o];exact K);exact HM.o.more p (by rw[<-d9.o];exact hp) hd _ M h2,λ_ m hm=>Oo⟩⟩⟩
 case round=>
  clear n6 j4 h0 r7;obtain⟨k,hk,rfl,HT⟩:=hrel;by_cases e3:k<nL
  .have i1:=aV e3;have⟨q0,X0,hJ0,i0,e4,k0⟩:=HT.o;have n9:=n8 _ _ e4 k e3;have k3:Hh (∃q X,iJ ((L.take k).filter λy=>x.all p y) X/\KT (J W.1) X wr/\LG x (J W.1) wr bB bH cu cc (Z ap np cp) vb (Z av nv cv) p q/\(∀j,j<nh->q j<E (x.vl p j)/\∀m,m<q j->U (x.vl p j) m 0<U L k 0)/\∀j,j<0->U (x.vl p j) (q j) 0=U L k 0):=⟨q0,X0,hJ0,i0,e4,λj K=>⟨(k0 j K).1,(k0 j K).2 e3⟩,λj K=>Oo⟩;have r8:=ay (yT (by rw[<-j6.o];exact e3));have d0:=ay λk' M h2=>jP n7.o k k' M (by rw[<-j6.o];exact h2);have k4:=ay (qy (by rw[<-j6.o];exact e3));clear hJ0 i0 e4 k0 HT;have⟨V,k5⟩:=Ex (U L k 0);change Hh _ at k5;rw[<-k5]at n9 k3 r8 d0 k4;generalize wr=wo at *;go_upto_region 5 with (go_step3);clear n9;go_wp2;go_loopw [7,22] (λv7 t wr=>∃(i:Nat),i<=nh/\v7=ai i/\t=ai i/\Hh (∃q X,iJ ((L.take k).filter λy=>x.all p y) X/\KT (J W.1) X wr/\LG x (J W.1) wr bB bH cu cc (Z ap np cp) vb (Z av nv cv) p q/\(∀j,j<nh->q j<E (x.vl p j)/\∀m,m<q j->U (x.vl p j) m 0<V)/\∀j,j<i->U (x.vl p j) (q j) 0=V)) (λ_ t _=>nh-(intOf t).toNat);exact⟨0,eC,rfl,rfl,k3⟩;clear k3;obtain⟨i,t5,rfl,rfl,HT⟩:=hrel;have⟨q,X,o3,o4,i3,o5,o6⟩:=HT.o;change Hh _ at o3 o4 i3 o5 o6;clear HT;by_cases e5:i<nh
   .have i2:=aV e5;have a7:i<x.nh p:=by rw[<-d5.o];exact e5
    go_upto_region 10 with (go_at_call 193;apply (ay (i3.o.seek_calls hx HM (by rw[<-d9.o];exact hp) hd a7 V (o5 i e5).1 (o5 i e5).2)).o.mono;rintro e w5 ⟨⟨v5,rfl⟩,vq,o8⟩);change Hh _ at o8;have e6:=ay (o4.o.trans o8.o.kt);have KE:=ay (o8.o.lg.ended_calls HM (by rw[<-d9.o];exact hp) hd a7);have s3:(if i=i then vq else q i)=vq:=fE rfl;rw[s3]at KE;by_cases i4:vq=E (x.vl p i)
    .rw[fD i4]at KE;have HF:Hh (∀d,iJ (nxt p) (w5.drewN d)):=λd=>by
      have k8:nxt p=(L.take k).filter λy=>x.all p y:=by
       rw[j5.o];conv=>lhs;rw[<-tD k L]
       rw[cZ];have:(L.drop k).filter (λy=>x.all p y)=[]:=filter_eq_nil_iff.2 λz hz a5=>by
        obtain⟨m,s4,k9⟩:=gO hz;rw[dP]at s4;rw[getElem_drop]at k9;have t6:V<=z:=by
         by_cases e:m=0;subst e;rw[k5.o,gD,gE (by rw[<-j6.o];exact e3),<-k9];exact qP _;have:=d0 (k+m) Oo (by rw[j6.o];omega);rw[gD,gE Oo]at this;have h9:(Q L[k+m]).getD 0=z:=k9;rw[h9]at this;omega
        unfold JX.all at a5;rw[aT]at a5;have l1:=aN (a5 i (cJ.2 a7));have⟨m',o9,e'⟩:=yw l1;have:=o8.o.lo m' Oo;omega
       rw[this,dU]
      rw[k8];exact hJ _ _ _ o3 (e6.o.trans (KT.zu (rB eB d) (by have:=e6.o.O.size;have:=r3.o;have h8:=o8.o.lg.cur.lt cu rfl;omega)))
     go_wp2_with (go_at_call 194;apply KE.o.mono;rintro e w6 ⟨rfl,d6,rfl⟩);simp only[Exit.noGoto,Exit.inBlock,Exit.then];refine aU (R:=λe W'=>(∃v,e=rE v)/\(iJ _ W'\/Jx W')) (nK rfl _ _ _) rfl ?_;exact⟨⟨_,rfl⟩,.inl (HF d6)⟩
    rw[fC i4]at KE;have l2:vq<E (x.vl p i):=O1 o8.o.le
    have KV:=ay λd=>by
     have:=(o8.o.lg.zz hx (rB eB d)).value_calls HM (by rw[<-d9.o];exact hp) hd a7 (by rw[fE rfl];exact l2);rwa[fE rfl]at this
    have g4:Hh (∀d,KT (J W.1) X (w5.drewN d)/\LG x (J W.1) (w5.drewN d) bB bH cu cc (Z ap np cp) vb (Z av nv cv) p (λj=>if j=i then vq else q j)):=λd=>⟨e6.o.trans (KT.zu (rB eB d) (by have h8:=o8.o.lg.cur.lt cu rfl;omega)),o8.o.lg.zz hx (rB eB d)⟩;have l3:Hh (∀j,j<nh->(if j=i then vq else q j)<E (x.vl p j)/\∀m,m<(if j=i then vq else q j)->U (x.vl p j) m 0<V):=λj K=>by
     by_cases e:j=i;subst e;rw[fE rfl];exact⟨l2,o8.o.lo⟩;rw[fF e];exact o5 j K
    have⟨z,hz⟩:=Ex (U (x.vl p i) vq 0);rw[<-hz]at KV;by_cases d3:z=V
    .have s5:Hh (∀j,j<i+1->U (x.vl p j) (if j=i then vq else q j) 0=V):=λj K=>by
      by_cases e:j=i;subst e;rw[fE rfl,<-hz];exact d3;rw[fF e];exact o6 j Oo
     have q1:(z != V)=false:=by simp[d3]
     clear hz d3;go_wp2_with (first|go_at_call 194;apply KE.o.mono;rintro e w6 ⟨rfl,d6,rfl⟩|go_at_call 195;apply (KV.o d6).mono;rintro e w7 ⟨rfl,d7,rfl⟩);have HN:Hh (∃q X,iJ ((L.take k).filter λy=>x.all p y) X/\KT (J W.1) X (w5.drewN (d6+d7))/\LG x (J W.1) (w5.drewN (d6+d7)) bB bH cu cc (Z ap np cp) vb (Z av nv cv) p q/\(∀j,j<nh->q j<E (x.vl p j)/\∀m,m<q j->U (x.vl p j) m 0<V)/\∀j,j<i+1->U (x.vl p j) (q j) 0=V):=ay ⟨_,X,o3,(g4 (d6+d7)).1,(g4 (d6+d7)).2,l3,s5⟩;go_roundw;exact⟨i+1,Oo,Gg,Gg,HN⟩;exact Im
    have q1:(z != V):=by simp[d3]
    have g5:Hh ((L.take (k+1)).filter (λy=>x.all p y)=(L.take k).filter λy=>x.all p y):=ay (by
     rw[k4.o,cZ];have:[V].filter (λy=>x.all p y)=[]:=filter_eq_nil_iff.2 λy hy a5=>by
      rw[cI]at hy;subst hy;unfold JX.all at a5;rw[aT]at a5;have⟨m',o9,e'⟩:=yw (aN (a5 i (cJ.2 a7)));obtain⟨M,h2,-⟩:=x.tk_ok p a7;rcases oE m' vq with h|h|h;have:=o8.o.lo _ h;omega;rw[h]at e';exact d3 (hz.trans e');have h3:=o8.o.hi _ eA l2;have h4:=(jP (HM.o.asc _ M _ (hd _ M))) _ _ h o9;have h5:U (x.N (x.tk p i) (prt (x.H (x.tk p i)) p)) m' 0=y:=e';have h6:y<=U (x.N (x.tk p i) (prt (x.H (x.tk p i)) p)) vq 0:=h3;omega
     rw[this,dU])
    have qs:((i:Int) == (nh:Int))=false:=Sy;clear hz d3;go_upto_region 14 with (first|go_at_call 194;apply KE.o.mono;rintro e w6 ⟨rfl,d6,rfl⟩|go_at_call 195;apply (KV.o d6).mono;rintro e w7 ⟨rfl,d7,rfl⟩);have HN:Hh (∃q X,iJ ((L.take (k+1)).filter λy=>x.all p y) X/\KT (J W.1) X (w5.drewN (d6+d7))/\LG x (J W.1) (w5.drewN (d6+d7)) bB bH cu cc (Z ap np cp) vb (Z av nv cv) p q/\∀j,j<nh->q j<E (x.vl p j)/\(k+1<nL->∀m,m<q j->U (x.vl p j) m 0<U L (k+1) 0)):=ay ⟨_,X,by rw[g5.o];exact o3,(g4 (d6+d7)).1,(g4 (d6+d7)).2,λj K=>⟨(l3 j K).1,λl4 m hm=>by
     have M:=(l3 j K).2 m hm;have h2:=d0 _ Oo l4;omega⟩⟩
    go_wp2_with fail;simp only[Exit.noGoto,Exit.inBlock,Exit.then];go_wp2;go_roundw;exact⟨k+1,Oo,Gg,HN⟩;exact Im
   obtain rfl:i=nh:=Oo;have i2:=aY i;have qs:((i:Int) == (i:Int)):=Ss;have g5:Hh ((L.take (k+1)).filter (λy=>x.all p y)=((L.take k).filter λy=>x.all p y)++[V]):=ay (by
    rw[k4.o,cZ];have:x.all p V:=by
     unfold JX.all;rw[aT];intro j K;have p2:j<i:=by rw[d5.o];exact cJ.1 K
     refine fD ?_;rw[<-o6.o j p2];exact yT (o5 j p2).1
    rw[filter_cons,fE this];rfl)
   go_upto_region 14 with fail;refine(oF (n:=0)).1 ?_;have b0:=i3.o.bx.c0;have b1:=i3.o.bx.c1;have b2:eQ wr (az bH 0)=Q (Z av nv cv):=by rw[eI i3.o.bh];rfl
   have s7:Hh (Cl 196 #[aQ #[Z ap np cp,vb],ai V,Z av nv cv,sZ cu 0 i cc] wr λe w'=>∃g c g' c',e=rE (aQ #[sZ g 0 (np+1) c,sZ g' 0 nT c'])/\Bl wr w'/\Brn x (J X.1) w' (sZ g 0 (np+1) c) (sZ g' 0 nT c') (p++[V])):=ay (by
    have hL:=i3.o;have e7:E p<no:=by rw[<-d9.o];exact hp
    have s8:=HM.o.hl;have l5:=HM.o.hav _ e7;have I:E (U x.hav (E p) [])=i:=by rw[l5,d5.o];rfl
    have eb:vb=sZ bb 0 nT cb:=by rw[d8.o];exact m8
    have hb:=hL.brn.O;rw[eb,<-d8.o]at hb;have d1:IS wr (Z av nv cv) (U x.hav (E p) []):=by rw[r4.o];exact qN (hL.dat.hq.l _ (by rw[s8];exact e7))
    have p3:=o4.o.O.size;have e9:0<nT:=by rw[d8.o];have:=(x.tk_ok p (j:=0) (by rw[<-d5.o];exact d4)).1;omega
    have:=qDg cu cc p V (λj=>x.f (x.tk p j) (prt (x.H (x.tk p j)) p++[V])) hL.brn.pre (O1 HM.o.lo) hb (qHk x p) (by rw[d8.o];have:=(x.tk_ok p (j:=0) (by rw[<-d5.o];exact d4)).1;omega) (by rw[d8.o];exact HM.o.lT) d1 (by rw[I];exact f7)
     (λj K=>by
      rw[I,d5.o]at K;obtain⟨M,-,h3⟩:=x.tk_ok p K;rw[l5,h3,d8.o];omega)
     (λW' t0 j K=>by
      rw[I]at K;exact(hL.zz hx t0).below_calls HM e7 hd (by rw[<-d5.o];exact K) (o5 j K).1 (o6 j K))
    rw[I,<-eb]at this;apply this.mono;rintro e w' ⟨g,c,g',c',rfl,e0,p5,hb'⟩;rw[d5.o,qF5 x p V l5,d8.o]at p5;rw[<-d9.o]at e0;refine⟨g,c,g',c',by rw[<-d9.o],hb',⟨?_,?_⟩⟩;rw[lA,lS,<-d9.o];exact qE e0 p3;rw[d8.o];exact qE p5 p3)
   have p6:Hh (∀w8,Bl wr w8->KT (J W.1) X w8/\LG x (J W.1) w8 bB bH cu cc (Z ap np cp) vb (Z av nv cv) p q):=ay λw8 e8=>⟨o4.o.trans (KT.zu e8 (by have h8:=i3.o.cur.lt cu rfl;omega)),i3.o.zz hx e8⟩;have i5:Hh (np=E p/\nT=x.nT):=ay ⟨d9,d8⟩;gi_wp2_with (refine⟨trivial,rfl,?_⟩;gi_at_call 196;apply (nW.2 s7.o).mono;rintro e w8 ⟨g8,c8,p7,p8,rfl,e8,p9⟩;have⟨fn,tmps,assign,body,hy,hR⟩:=hY _ V (sZ g8 0 (np+1) c8,sZ p7 0 nT p8) X _ o3 (p6 w8 e8).1 ⟨p9,(by rw[j5.o,<-g5.o];exact(take_prefix _ _).filter _),⟨g8,c8,by rw[<-i5.o.1]⟩,⟨p7,p8,by rw[<-i5.o.2]⟩⟩;dsimp only[qDh]at hy)
   refine⟨rfl,?_⟩;apply hR.mono;rintro e w9 (⟨rfl,q2,q3⟩|⟨rfl,q4,-⟩)
   .have HN:Hh (∃q X,iJ ((L.take (k+1)).filter λy=>x.all p y) X/\KT (J W.1) X w9/\LG x (J W.1) w9 bB bH cu cc (Z ap np cp) vb (Z av nv cv) p q/\∀j,j<i->q j<E (x.vl p j)/\(k+1<nL->∀m,m<q j->U (x.vl p j) m 0<U L (k+1) 0)):=ay ⟨q,w9,by rw[g5.o];exact q2,KT.refl _ _,(ay (p6 _ e8).2).o.kp hx q3,λj K=>⟨(o5 j K).1,λl4 m hm=>by
     have M:=(o5 j K).2 m hm;have h2:=d0 _ Oo l4;omega⟩⟩
    clear q2 q3 hR hy;gi_wp2
    go_wp2_with fail;simp only[Exit.noGoto,Exit.inBlock,Exit.then];go_wp2;go_roundw;exact⟨k+1,Oo,Gg,HN⟩;exact Im
   clear hR hy;gi_wp2
   go_wp2_with fail;simp only[Exit.noGoto,Exit.inBlock,Exit.then];refine aU (R:=λe W'=>(∃v,e=rE v)/\(iJ _ W'\/Jx W')) (nK rfl _ _ _) rfl ?_;exact⟨⟨_,rfl⟩,.inr q4⟩
  obtain rfl:k=nL:=Oo;have i1:=aY k;obtain⟨q,X,q5,i6,q6,-⟩:=HT.o;have HF:=ay (by
   have:=hJ _ _ _ q5 i6;rwa[j6.o,tL,<-j5.o]at this)
  clear q5 i6 q6 HT;go_wp2;go_end0
  exact⟨⟨_,rfl⟩,.inl HF⟩
end Go.Proofs.YtfpjpngjikdaoaaGreat
namespace Go.Proofs.YtfpjpngjikdaoaaGreat
open Go.Proofs.Tryz Go.RowKit Meet
variable {o:LI}{ps:LL}{tl:List TbV}{us:LV}{B C h i k r v l n N K:Nat}{t t':TypeId}{vr vp hvv vt vo:oV}{W X Y w3 w w2 w4:oX}{cs:List (OA)}
def UD{a0 a1:OA}{n0 c0 n1 c1}:
 aF 86 #[Z a0 n0 c0,Z a1 n1 c1] w (.func (.func 119) #[] #[pZ (J w.1) 0,pZ (J w.1+1) 0]) λw'=>w'=S (S w (eZ #[Z a0 n0 c0] 34)) (eZ #[Z a1 n1 c1] 24):=by
 go_enter func86,ntmps86;go_wp2;go_ret;exact⟨rfl,rfl⟩
def jx0(h r v:Nat):JX:=mkX h r v 0 [] [] (λ_ _=>0) (λ_ _=>tM) (λ_ _=>tM) tM []
section
variable {h r v n0:Nat} {tl:List TbV} {o:LI} {f:Nat->LI->Nat} {g0 g1:Nat->LI->oV} {hv:oV} {uh:LV} {sS:Nat->Prop} {X Y:oX}
def kp0(k:KpS (jx0 h r v) sS X Y):KpS (mkX h r v n0 tl o f g0 g1 hv uh) sS X Y:=⟨k.os,k.tape,k.output,k.size,k.same,k.fresh,k.zy⟩
end
def qF0(no:Nat)(tot pre:LL)(p:LI)(vp:oV)(X Y:oX):Prop:=oW Y (J X.1) 3 1 vp (E p) (p.map ai)/\E p<=no/\(∃g c,vp=sZ g 0 (E p) c)/\pre++[p] <+:tot
def zM(tl:List TbV)(o:LI):LL:=if xd tl then [] else zH (nxJ tl o) (E o) []
def qCr(hl:E cs=E tl)(hT:∀t,t<E tl->TrO B W (U (tl.map λt=>(sdT o t).x) t []) (U cs t wH)):XS cs=xd tl:=by
 have hT':∀t,t<E tl->TrO B W (sdT o (U tl t qA)).x (U cs t wH):=λt K=>by
  have:=hT t K;rw[gD,bK,gE K]at this;have e3:U tl t qA=tl[t]:=by rw[gD,gE K];rfl
  rw[e3];exact this
 have hE:∀t:TbV,(sdT o t).x=[]↔E t.x=0:=λt=>by
  constructor
  .intro h;by_cases e:t.x=[];rw[e];rfl;exact absurd h (qEp (by simpa using e))
  intro h;have:=eq_nil_of_length_eq_zero h;show srt (t.x.map _)=[];rw[this];exact jN Ss
 unfold XS xd;rw[pL,dE,any_eq_true];constructor
 .intro h;have⟨i,hi,e⟩:=gO h;have M:i<E tl:=Oo;refine⟨U tl i _,Qa M,fD ?_⟩;have O:=hT' i M;have e2:U cs i wH=none:=by rw[gD,gE hi];exact e
  rw[e2]at O;rcases O with ⟨I,-⟩|⟨-,D,N,f,g0,g1,I,-⟩;exact(hE _).1 I;cases I
 rintro⟨t,K,O⟩;obtain⟨i,hi,rfl⟩:=gO K;have I:=hT' i hi;have e3:U tl i qA=tl[i]:=by rw[gD,gE hi];rfl
 rw[e3]at I;rcases I with ⟨-,V⟩|⟨V,-⟩;rw[gD,gE Oo]at V;have:cs[i]' Oo∈cs:=gM _;have h5:cs[i]' Oo=none:=V;rwa[h5]at this;exact absurd ((hE _).2 (aN O)) V
def qF1(hl:E cs=E tl)(hT:∀t,t<E tl->TrO B W (U (tl.map λt=>(sdT o t).x) t []) (U cs t wH))(V:xd tl=nF):
 ∃(f:Nat->LI->Nat) (g0 g1:Nat->LI->oV),cs=(range (E tl)).map (λt=>Q (az (f t []) 0))/\∀t,t<E tl->TR W B (λp=>p=[]\/∃r∈(sdT o (U tl t qA)).x,p <+:r) (nN (E (sdT o (U tl t qA)).m) (sdT o (U tl t qA)).x) (nN (E (sdT o (U tl t qA)).m) (sdT o (U tl t qA)).x) (f t) (g0 t) (g1 t):=by
 have I:=V;rw[<-qCr hl hT]at I;have hT':∀t,t<E tl->∃f g0 g1,U cs t wH=Q (az (f []) 0)/\TR W B (λp=>p=[]\/∃r∈(sdT o (U tl t qA)).x,p <+:r) (nN (E (sdT o (U tl t qA)).m) (sdT o (U tl t qA)).x) (nN (E (sdT o (U tl t qA)).m) (sdT o (U tl t qA)).x) f g0 g1:=λt K=>by
  have h1:=hT t K;rw[gD,bK,gE K]at h1;have e3:U tl t qA=tl[t]:=by rw[gD,gE K];rfl
  rw[e3];rcases TrO.tr (h1:TrO B W (sdT o tl[t]).x _)with ⟨-,M⟩|⟨-,M⟩;exfalso;rw[gD,gE Oo]at M;have h3:cs[t]' Oo=none:=M;have h4:cs[t]' Oo∈cs:=gM _;rw[h3]at h4;exact (pU I) h4;exact M
 have hC:∀t,∃O:(LI->Nat)×(LI->oV)×(LI->oV),t<E tl->U cs t wH=Q (az (O.1 []) 0)/\TR W B (λp=>p=[]\/∃r∈(sdT o (U tl t qA)).x,p <+:r) (nN (E (sdT o (U tl t qA)).m) (sdT o (U tl t qA)).x) (nN (E (sdT o (U tl t qA)).m) (sdT o (U tl t qA)).x) O.1 O.2.1 O.2.2:=λt=>by
  by_cases K:t<E tl;have⟨f,g0,g1,h⟩:=hT' t K;exact⟨(f,g0,g1),λ_=>h⟩;exact⟨(λ_=>0,λ_=>tM,λ_=>tM),λh=>absurd h K⟩
 have⟨F,hF⟩:=Classical.axiomOfChoice hC;refine⟨λt=>(F t).1,λt=>(F t).2.1,λt=>(F t).2.2,?_,λt K=>(hF t K).2⟩;refine ext_getElem? λi=>?_;by_cases hi:i<E tl;rw[bK,getElem?_range hi];have:=(hF i hi).1;rw[gD,gE Oo]at this;rw[gE Oo];exact congrArg _ this;rw[gN Oo,gN Sy]
def TyR.zz{x}(h:TyR x X)(hb:Bl X Y)(K:x.r<J X.1):TyR x Y:=λk M=>by
 have⟨cur,z,I⟩:=h k ((RBk.eq (hb.block _ K) k).1 M);exact⟨cur,z,(hb.block k (qZ I)).trans I⟩
def TyR.old{x}(h:TyR x X)(hb:Bl X Y)(I:x.r<J X.1)(K:RBk x Y k):k<J X.1:=by
 have⟨cur,z,M⟩:=h k ((RBk.eq (hb.block _ I) k).1 K);exact qZ M
def qF2{vb}(hh:h<J W.1)(hr:r<J W.1)(hv:v<J W.1)(hl:l<J W.1)(a9:TyR (jx0 h r v) W)
 (b1:∀t∈tl,qW t) (hc:YP tl o) (b7:E tl<=1000) (b8:E o<=1000) (I:xd tl=nF)
 (b9:E cs=E tl) (hT:∀t,t<E tl->TrO (J W.1) w2 (U (tl.map λt=>(sdT o t).x) t []) (U cs t wH)) (hp:oW w2 (J W.1) 3 1 vp 0 []) (hb:oW w2 (J W.1) 183 1 vb (E tl) (cs.map Value.pointer)) (c7:∃g c,vp=sZ g 0 0 c)
 (a4:Bl W w2) (a5:Bl w2 w3) (c8:Bl w3 w4) (hQ:RQ w4 (J w3.1) hvv us (yI tl o)) (hg:∃g,hvv.ownBlock=Q g)
 (iJ:LL->WP) {Jx:WP} (hJ:∀s X Y,iJ s X->KT (J W.1) X Y->iJ s Y) (c9:∀X Y,Jx X->KT (J W.1) X Y->Jx Y)
 (hY:∀pre x b X Y,iJ pre X->KT (J W.1) X Y->qF0 (E o) (zM tl o) pre x b X Y->YieldAt Fence.wide 0 wD l #[b] Y λe iZ=>(e=rE (oB true)/\iJ (pre++[x]) iZ/\KpS (jx0 h r v) (λk=>k=l) Y iZ)\/(e=rE (oB nF)/\Jx iZ/\KpS (jx0 h r v) (λk=>k=l) Y iZ))
 (h0:iJ [] W):Cl 122 #[aQ #[vp,vb],hvv,.func (.yield l) #[] #[]] w4 λe iZ=>(∃b,e=rE (oB b))/\(iJ (zM tl o) iZ\/Jx iZ):=by
 have⟨f,g0,g1,d0,d1⟩:=qF1 b9 hT I;have O:=bt a5 c8;have a3:=bt a4 O;have hs2:=a4.size;have d5:=a5.size;have⟨x,ex⟩:=Ex (mkX h r v (J W.1) tl o f g0 g1 hvv us);have hx:x.Ok:=by rw[ex];exact⟨hh,hr,hv⟩
 have hm:JMx x (nxJ tl o) (E o):=by
  rw[ex];exact qFz (λt ht=>XW (b1 t ht)) (λt ht e=>by
   unfold xd at I;rw[any_eq_false]at I;exact I t ht (fD (by rw[e];rfl))) hc b7 b8
 have V:TyR x W:=by rw[ex];exact a9
 have a6:x.r<J W.1:=by rw[ex];exact hr
 have a7:Dat x w4:=by
  refine⟨V.zz a3 a6,λt ht=>?_,?_,λk hk hR=>?_⟩;rw[ex]at ht |-;exact(d1 t ht).zz O;rw[ex];exact hQ.zx (by show J W.1<=J w3.1;omega);have h1:=V.old a3 a6 hR;have K:hvv.ownBlock=Q k:=by rw[ex]at hk;exact hk
  have:=(hQ.z.lt k K).1;omega
 have a8:Brn x (J W.1) w4 vp vb []:=by
  refine⟨qB hp O,?_⟩;have e1:x.O []=cs.map .pointer:=by
   rw[d0,ex];unfold JX.O;rw[map_map];rfl
  rw[e1,ex];exact qB hb O
 have d2:HVs x (E o) 0 hvv:=by
  have⟨g,hg⟩:=hg;have hlen:E (yI tl o)=E o:=by unfold yI;rw[lM]
  rcases hQ.z.2 with ⟨e,-⟩|⟨g',cap,cur,e,-,-,hn,-⟩;rw[e]at hg;cases hg
  rw[hlen]at e hn;refine⟨g',0,cap,by rw[ex];show hvv.ownBlock=_;rw[e];rfl,e,λ_=>rfl,?_⟩;have:E o<=cap:=Oo;omega
 have M:x.n0=J W.1:=by rw[ex];rfl
 have hw:=VD x hx _ _ hm (λp _ K y hy=>by rw[ex]at K |-;exact qFy p K y hy) l (by rw[ex];exact hl) (λw bB bH vp vb p h1 K h3 h4 h5 h6 h7 h8 h9=>Jb x hx hm l w p h1 K h3 h4 h5 h6 h7 h8 h9) (zM tl o) iJ Jx (by rw[M];exact hJ) (by rw[M];exact c9) (λps p vp X Y h1 K h3 h4 h5 d4=>by
  rw[M]at K;have⟨fn,tmps,assign,body,hy,hR⟩:=hY _ p _ X Y h1 K ⟨h3,h4,h5,d4⟩;refine⟨fn,tmps,assign,body,hy,hR.mono λe iZ h=>?_⟩;rw[ex];rcases h with ⟨h6,h7,h8⟩|⟨h6,h7,h8⟩;exact .inl ⟨h6,h7,kp0 h8⟩;exact .inr ⟨h6,h7,kp0 h8⟩) (E o) _ _ W _ _ _ _ Ss (by unfold zM;rw[I];exact prefix_rfl) (by rw[ex];exact(VE []).2 (qAt o)) (by rw[M];exact eA) h0 (by rw[M];exact KT.zu a3 eA) a7 a8 c7 d2
 refine hw.mono λe iZ h=>?_;have ep:zM tl o=[]++zH (nxJ tl o) (E o) []:=by unfold zM;rw[I];rfl
 rw[ep];rcases h with ⟨h1,K,-⟩|⟨h1,K,-⟩;exact⟨⟨_,h1⟩,.inl K⟩;exact⟨⟨_,h1⟩,.inr K⟩
def VF{bT bO}o(c9:w.1[bT]?=Q (eZ #[vt] 34 (0,0)))(d0:w.1[bO]?=Q (eZ #[vo] 24 (0,0)))(hT:ITs w vt tl)(hO:IS w vo o)(V:∀t∈tl,qW t)(hc:YP tl o)(hl:E tl<=1000)(b1:E o<=1000)(hh:h<J w.1)(hr:r<J w.1)(hv:v<J w.1)(d7:TyR (jx0 h r v) w):
 Gives wD 119 #[pZ bT 0,pZ bO 0] (λvp=>#[vp]) (λl=>KpS (jx0 h r v) λk=>k=l) (λl=>KpS (jx0 h r v) λk=>k=l) (qF0 (E o) (zM tl o)) (zM tl o) w:=by
 intro l iJ Jx W K d8 e8 hJ d9 hY h0;show Calls _ _ #[.func (.yield l) #[] #[],pZ bT 0,pZ bO 0] W _;have hs:=K.size;have HC:Hh (∀W',Bl W W'->eQ W' (az bT 0)=Q vt/\eQ W' (az bO 0)=Q vo/\Bl W W'):=λW' I=>by
  have hb:=(K).trans (I.mono hs);exact⟨by rw[eI ((hb.block _ (qZ c9)).trans c9)];rfl,by rw[eI ((hb.block _ (qZ d0)).trans d0)];rfl,I⟩
 have O:Hh (∀W',Bl W W'->Cl 120 #[vt,vo] W' λe w'=>∃(g c:Nat) (vb:oV) (cs:List (OA)),e=rE (aQ #[sZ g 0 0 c,vb])/\oW w' (J W.1) 3 1 (sZ g 0 0 c) 0 []/\oW w' (J W.1) 183 1 vb (E tl) (cs.map .pointer)/\E cs=E tl/\(∀t,t<E tl->TrO (J W.1) w' (U (tl.map λt=>(sdT o t).x) t []) (U cs t wH))/\Bl W w'):=λW' I=>by
  have hb:=(K).trans (I.mono hs);apply (qAf o (hT.zz hb) (hO.zz hb) hl b1 V).mono;rintro e w' ⟨g,c,vb,cs,rfl,h1,h2,h3,h4,h5⟩;refine⟨g,c,vb,cs,rfl,qE h1 I.size,qE h2 I.size,h3,λt ht=>?_,bt I h5⟩;rcases h4 t ht with h6|⟨h6,D,N,f,g0,g1,h7,h8,h9,e9⟩;exact .inl h6;exact .inr ⟨h6,D,N,f,g0,g1,h7,h8,h9.zx I.size,e9⟩
 have KW:Hh (∀W',Bl W W'->Cl 123 #[vo,vt] W' λe w'=>∃v us,e=rE v/\RQ w' (J W'.1) v us (yI tl o)/\(∃g,v.ownBlock=Q g)/\Bl W' w'):=λW' I=>by
  have hb:=(K).trans (I.mono hs);exact YK o (hT.zz hb) (hO.zz hb) hl b1 (λt ht=>by have:=(XW (V t ht)).e;omega)
 have HE:Hh (∀e iZ,((∃b,e=Ending.returned (oB b))/\(iJ (zM tl o) iZ\/Jx iZ))->iJ (zM tl o) iZ\/Jx iZ):=λe iZ h=>h.2;have HN:Hh (∀iZ,Bl W iZ->xd tl->iJ (zM tl o) iZ):=λiZ hZ he=>by
  have:zM tl o=[]:=by unfold zM;rw[he];rfl
  rw[this];exact hJ _ _ _ h0 (KT.zu hZ eA)
 have HK:=ay (λ(w2 w3 w4) (vp vb hvv) us cs a1 a2 a3 a4 a5 a6 a7 a8 a9 a10 a11=>qF2 (w2:=w2) (w3:=w3) (w4:=w4) (vp:=vp) (vb:=vb) (hvv:=hvv) (us:=us) (cs:=cs) Oo Oo Oo d8 (d7.zz K hr) V hc hl b1 a1 a2 a3 a4 a5 a6 a7 a8 a9 a10 a11 iJ hJ d9 hY h0);obtain⟨f7,ct,f8,-⟩:=hT;obtain⟨ao,co,f9,-⟩:=hO;subst f8 f9;clear c9 d0 V hc hJ d9 hY h0 d7 K b1 hh hr hv d8 e8;have⟨n,hn⟩:=Ex (E tl);rw[<-hn]at HC O KW hl HK;have e0:=ay hn;clear hn;have⟨no,e1⟩:=Ex (E o);rw[<-e1]at HC O KW;clear e1;go_enter func119,ntmps119;obtain⟨cT,cO,-⟩:=HC W eB;go_upto_region 1 with (go_at_call 120;apply (O.o _ (by first|exact bJ _ _|exact eB.drew|exact qC eB _)).mono;rintro e w2 ⟨g2,c2,vb,cs,rfl,e2,b7,d1,d2,d3⟩;have⟨ab,cb,eb⟩:=xT b7;subst eb);have⟨M,b8⟩:=Ex (S w2 (eZ #[sZ g2 0 0 c2,Z ab n cb] 180));have b9:Bl w2 M:=by rw[b8];exact qC eB _
 have d4:BrX M (J w2.1) (sZ g2 0 0 c2) (Z ab n cb):=by rw[b8];exact BrX.new _ _ _
 rw[<-b8];clear b8;have k1:=d4.c1;have KC:=ay (Xf M n (qB b7 b9) d1 Oo);have d5:=ay (qCr (by rw[d1];exact e0) (by rw[<-e0.o];exact d2));rw[d5.o]at KC;have c7:=bt d3 b9;have d6:=ay d4;have e3:Hh (∀W',Bl M W'->aC W' (J w2.1) 0 (sZ g2 0 0 c2)/\aC W' (J w2.1) 1 (Z ab n cb)/\aC W' bT 0 (Z f7 n ct)/\aC W' bO 0 (Z ao no co)/\Bl M W'):=λW' I=>⟨(d6.o.zz I).c0,(d6.o.zz I).c1,(HC _ (bt c7 I)).1,(HC W' (bt c7 I)).2.1,I⟩;clear d4 cT cO;cases hem:xd tl with
 |true=>
  rw[hem]at KC;have e5:Hh (iJ (zM tl o) M\/Jx M):=.inl (HN _ c7 hem);clear hem HN HK KW O HC HE d5;go_wp2_with (go_at_call 121;apply KC.o.mn;intro w' hw;obtain rfl:M=w':=hw.symm);go_end0
  exact⟨⟨_,rfl⟩,e5⟩
 |false=>
  rw[hem]at KC;have g4:=ay λw3 w4 hvv us h1 h2 h3 h4=>HK _ w3 w4 _ _ hvv us _ hem d1 d2 e2 b7 ⟨_,_,rfl⟩ d3 (bt b9 h1) h2 h3 h4;have g5:=ay λW' I=>KW W' (bt c7 I);clear hem HN HK KW O HC HE d5 d2 e2 b7 d3 b9 d6;go_upto_region 2 with (go_at_call 121;apply KC.o.mn;intro w' hw;obtain rfl:M=w':=hw.symm);obtain⟨s1,s2,s3,s4,-⟩:=e3 _ eB.drew;go_region_law (first
   |(go_simp;go_at_call 123;apply (g5.o _ eB.drew).mono;rintro e w4 ⟨v4,g6,rfl,e6,hg4,e7⟩;obtain⟨r1,r2,r3,r4,-⟩:=e3 _ (bt eB.drew e7);have⟨a4,c4,e4⟩:=xT e6.z;subst e4)
   |(go_simp;go_at_call 122;apply (g4.o _ _ _ _ eB.drew e7 e6 hg4).mono;rintro e w5 ⟨⟨b5,rfl⟩,h5⟩)
   |fail)
  all_goals go_end0
  all_goals exact⟨⟨_,rfl⟩,h5⟩
open Go.Shelf
def xj(ps:LL):Nat:=E (ps.filter λq=>oD (0<E q))
def vG(no:Nat)(ps:LL):LL:=ps.filter λq=>oD (E q=no)
def qEr ps(p:LI):xj (ps++[p])=xj ps+(if 0<E p then 1 else 0):=by
 unfold xj;rw[cZ,lA];by_cases h:0<E p;rw[fE h];simp[h];rw[fF h];simp[h]
def qEs no ps(p:LI):vG no (ps++[p])=vG no ps++(if E p=no then [p] else []):=by
 unfold vG;rw[cZ];by_cases h:E p=no;rw[fE h];simp[h];rw[fF h];simp[h]
def qF6 no ps:E (vG no ps)=qm ps no:=rfl
def qF7{qs:LL}(h:ps <+:qs)i:qm ps i<=qm qs i:=by
 obtain⟨r,rfl⟩:=h;exact qHm r i
def Qx(hi:i<=E o):(zM tl o).filter (λq=>oD (E q=i))=lvJ tl o i:=by
 unfold zM lvJ;cases xd tl
 have:=qAn (nxJ tl o) _ [] i hi;rwa[length_nil,cU]at this;rfl
def qAm:∀q∈zM tl o,E q<=E o:=λq hq=>by
 unfold zM at hq;cases he:xd tl
 rw[he]at hq;have:=(Zp _ _ _ q hq).2;simpa using this;rw[he]at hq;cases hq
def qF8:xj (zM tl o)=viJ tl o (E o):=by
 unfold xj;rw[VG (zM tl o) (E o) qAm];unfold viJ;congr 1;refine cV λj I=>?_;have K:=cJ.1 I;unfold qm;rw[Qx Oo]
def qHl(h:∀q∈ps,E q<=k)(I:∀i,qm ps i<=10000):xj ps<=k*10000:=by
 unfold xj;rw[VG ps k h];have:∀m,((range m).map λj=>qm ps (j+1)).sum<=m*10000:=λm=>by
  induction m with
  |zero=>simp
  |succ m ih=>
   rw[dQ,mA,sum_append];have:=I (m+1);simp only[map_cons,map_nil,sum_cons,sum_nil];omega
 exact this k
def qF9(I:okJ tl o)(h:∀i,qm (zM tl o) i<=10000):qO tl o=vG (E o) (zM tl o)/\zK tl o=(xj (zM tl o):Int):=by
 have hs:smJ tl o (E o):=by
  unfold smJ;rw[aT];intro i hi;have K:=cJ.1 hi;have:=h (i+1);unfold qm at this;rw[Qx Oo]at this;exact fD this
 have⟨M,O⟩:=vY I;rw[M,O,hs];refine⟨?_,by rw[qF8];rfl⟩;show lvJ tl o (E o)=(zM tl o).filter _;rw[Qx eA]
def qGA(I:okJ tl o)(hi:i<=E o)(h:10000<qm (zM tl o) i):qO tl o=[]/\zK tl o=-1:=by
 have hs:smJ tl o (E o)=false:=by
  unfold qm at h;rw[Qx hi]at h;cases i with
  |zero=>have:=qAs tl o;omega
  |succ i=>exact U6 (j:=i) Oo Oo
 have⟨K,M⟩:=vY I;rw[K,M,hs];exact⟨rfl,rfl⟩
def XT(c:NN):AV:=#[ai (c 0),ai (c 1),ai (c 2),ai (c 3),ai (c 4),ai (c 5),ai (c 6)]
def HX(W:oX)(k:Nat)(c:NN):Prop:=W.1[k]?=Q (eZ (XT c) 125 (0,0))
def qEt c(h:v<7):(XT c)[v]?=Q (ai (c v)):=by
 obtain rfl|rfl|rfl|rfl|rfl|rfl|rfl:v=0\/v=1\/v=2\/v=3\/v=4\/v=5\/v=6:=Oo;all_goals rfl
section
variable {W W':oX} {k:Nat} {c:NN}
def HX.cell(h:HX W k c)(hv:v<7):eQ W (az k v)=Q (ai (c v)):=by rw[eI h];exact qEt c hv
def HX.L(h:HX W k c)j:W.frozen? (az k j)=false:=by unfold World.frozen?;rw[show W.1[k]?=_ from h];simp
def HX.set(h:HX W k c)(hv:v<7)(n:Nat):HX (sW W (az k v) (ai n)) k (λi=>if i=v then n else c i):=by
 unfold HX;rw[eN h];obtain rfl|rfl|rfl|rfl|rfl|rfl|rfl:v=0\/v=1\/v=2\/v=3\/v=4\/v=5\/v=6:=Oo;all_goals simp[XT]
def HX.V{c'}(h:HX W k c)(I:∀i,i<7->c' i=c i):HX W k c':=by
 have:XT c'=XT c:=by unfold XT;rw[I 0 Oo,I 1 Oo,I 2 Oo,I 3 Oo,I 4 Oo,I 5 Oo,I 6 Oo]
 unfold HX;rw[this];exact h
end
def RQ.kt{v ls}(h:RQ X B v us ls)(M:KT C X Y):RQ Y B v us ls:=
 ⟨qD h.z λg I=>by
  have⟨cur,K⟩:=qK h.z I;exact M.cel g _ _ _ K Dd Dd,h.C,λi hi=>qD (h.l i hi) λg I=>by
  have⟨cur,K⟩:=qK (h.l i hi) I;exact M.cel g _ _ _ K Dd Dd,h.ap⟩
def TyR.of(hb:Boxed W r 23 vr)(ho:oW W B 24 1 vr n us):TyR (jx0 h r v) W:=λk K=>by
 have⟨o,m,c,M⟩:=K;have I:eQ W (az r 0)=Q (sZ k o m c):=M;rw[hb.cell]at I;cases I
 have⟨cur,O⟩:=qK ho (g:=k) rfl;exact⟨cur,_,O⟩
def RBk.iff(hb:Boxed W r 23 vr)(K:RBk (jx0 h r v) W k):vr.ownBlock=Q k:=by
 have⟨o,m,c,M⟩:=K;have I:eQ W (az r 0)=Q (sZ k o m c):=M;rw[hb.cell]at I;cases I
 rfl
section
variable {h r v:Nat} {W W' w3:oX} {vr:oV} {us:LV} {B n g c:Nat}
def KpS.box{j y}(O:k=h\/k=v)(V:r≠k)(I:TyR (jx0 h r v) W->TyR (jx0 h r v) (sW W (az k j) y)):KpS (jx0 h r v) (λ_=>False) W (sW W (az k j) y):=by
 refine⟨rfl,rfl,rfl,by simp[World.setCell],λi o hi _ K=>(eG λe=>?_).trans hi,λi hi=>.inl ((RBk.eq (eG V) i).1 hi),I⟩;have M:i=k:=e;rcases O with rfl|rfl;exact K (.inl M);exact K (.inr (.inr (.inl M)))
def KpS.x{o m}{ys:LV}(I:(S W o).grownBy w3 vr.ownBlock)(K:oW w3 B 24 1 (sZ g 0 m c) m ys)(V:vr.ownBlock=Q g\/J W.1<=g)(a3:g≠r)(M:Boxed (sW w3 (az r 0) (sZ g 0 m c)) r 23 (sZ g 0 m c))(O:∀q,vr.ownBlock=Q q->RBk (jx0 h r v) W q):
 KpS (jx0 h r v) (λ_=>False) W (sW w3 (az r 0) (sZ g 0 m c)):=by
 have hs:=I.size;rw[aM]at hs;refine⟨I.os,I.tape,I.output,?_,λi ob hi _ hm=>?_,λi hi=>?_,λ_=>?_⟩;show J W.1<=J (w3.setCell _ _).1;simp[World.setCell];omega;have a5:=qZ hi;refine(eG (by exact λe=>hm (.inr (.inl e)))).trans ((I.block i (by rw[aM];omega) λe=>hm (.inr (.inr (.inr (O i e.symm))))).trans ((eL a5).trans hi))
 .have h1:=RBk.iff M hi;have h2:g=i:=by simpa[wN]using h1
  subst h2;rcases V with h3|h3;exact .inl (O _ h3);exact .inr h3
 refine TyR.of M (qD K λq hq=>eG ?_);have h2:g=q:=by simpa[wN]using hq
 subst h2;exact a3
def KpS.keepsF(I:KpS (jx0 h r v) (λ_=>False) W W')(O:TyR (jx0 h r v) W)(hh:h<C)(hr:r<C)(hv:v<C):KeepsFrom C W W':=by
 refine⟨I.size,λk o hC K ho=>I.same k o K (.inr id) λV=>?_⟩;rcases V with e|e|e|e;have:k=h:=e;omega;have:k=r:=e;omega;have:k=v:=e;omega;have⟨cur,z,M⟩:=O k e;rw[K]at M;cases M
 cases ho
end
def uG{F P ops rest o a}{iQ:Exit->Act->WP}(a5:o.guard=wH){s x}t
 (ho:o.op=.call { callee:=.builtin .append,args:=#[s,x],argTypes:=#[t,t] })
 base e i z size bytes (ht:P.underlying t=Q (.slice e)) (hi:P.info? e=Q i) (hz:i.zero=Q z)
 (M:i.size=size) (a6:i.bytes=bytes) (a7:z.cells.size=size) (hsz:0<size)
 v  (xs:LV) (hs:a.eval s=v) (a3:oW w base e size v n xs)
 ad m c (news:LV) (hx:a.eval x=Z (Q ad) m c) (hl:E news=m*size) (O:∀j u,news[j]?=Q u->w.cell? (ad.add j)=Q u) (h1:∀u∈news,u.oneCell')
 (hm:0<m) (a8:n+m<=maxLen) (I:(n+m)*bytes<=140737488355328) (V:base<=J w.1)
 (h:∀g cap w',oW w' base e size (sZ g 0 (n+m) cap) (n+m) (xs++news)->w.grownBy w' v.ownBlock->(v.ownBlock=Q g\/g=J w.1)->wpListIn F N P ops iQ rest (a.put o.dst (sZ g 0 (n+m) cap)) w'):wpListIn F N P ops iQ (o::rest) a w:=by
 refine wpListIn_plain a5 λK a9=>?_;obtain⟨g,cap,w',a4,r1,r2,r3,-⟩:=run_append_lies w t o.type _ e i z _ _ ht hi hz M a6 a7 hsz v n _ a3 _ m c _ hl O h1 hm a8 I V _ rfl;unfold Oper.wpIn;refine⟨?_,?_⟩;simp[Oper.about,ho,resolve,Target.leads,Sem.run_pure];rw[Oper.semAt_plain F _ _ (by rw[ho];intro c b1;cases b1)];simp[execOp,ho,resolve,invoke,builtin,hs,hx,a4,Result.andThen];exact a9 _ _ (h g _ _ r1 r2 r3)
def yQ{cs I:AV}{z O}(h:W.1[k]?=Q (eZ cs t z))(M:W.1[K]?=Q (eZ I t' O))(V:t≠t'):k≠K:=λe=>by
 subst e;rw[h]at M;cases M
 exact V rfl
structure JS(B bo r v h:Nat)(vo:oV)(c:NN)(vn:Int)(ls:LL)(vr:oV)(us:LV)(w W:oX):Prop where
 hb:HX W h c
 rb:Boxed W r 23 vr
 rq:RQ W (bo+1) vr us ls
 vb:Boxed W v 3 (ai vn)
 ob:Boxed W bo 24 vo
 O:Below B w W
 sh:∃g k,vr=sZ g 0 (E ls) k
 ap:∀i,i<E ls->∀g,(U us i tM).ownBlock=Q g->g≠v
 low:B<=bo/\B<=r/\B<=v/\B<=h
section
variable {B bo r v h:Nat} {vo vr:oV} {c:NN} {vn:Int} {ls:LL} {us:LV} {w W Y:oX}
def JS.kt(j:JS B bo r v h vo c vn ls vr us w W)(I:KT C W Y)(K:B<=C):JS B bo r v h vo c vn ls vr us w Y:=
 ⟨(I.cel _ _ _ _ j.hb Dd Dd).trans j.hb,(I.cel _ _ _ _ j.rb Dd Dd).trans j.rb,j.rq.kt I,(I.cel _ _ _ _ j.vb Dd Dd).trans j.vb,(I.cel _ _ _ _ j.ob Dd Dd).trans j.ob,j.O.trans (I.O.mono K),j.sh,j.ap,j.low⟩
def JS.ty(j:JS B bo r v h vo c vn ls vr us w W):TyR (jx0 h r v) W:=TyR.of j.rb j.rq.z
def JS.own_ne(j:JS B bo r v h vo c vn ls vr us w W){cs:AV}(I:W.1[k]?=Q (eZ cs t (0,0)))(K:24≠t):vr.ownBlock≠Q k:=λe=>Go.Proofs.YtfpjpngjikdaoaaGreat.own_ne j.rq.z ⟨_,I⟩ K e.symm
def JS.held(j:JS B bo r v h vo c vn ls vr us w W)(hi:i<7)n:JS B bo r v h vo (λq=>if q=i then n else c q) vn ls vr us w (sW W (az h i) (ai n))/\KpS (jx0 h r v) (λ_=>False) W (sW W (az h i) (ai n)):=by
 have O:=yQ j.rb j.hb Dd;have k:∀q,q≠h->(sC W h i (ai n)).1[q]?=W.1[q]?:=λq hq=>eG hq;have I:Boxed (sC W h i (ai n)) r 23 vr:=(k _ O).trans j.rb;have K:RQ (sC W h i (ai n)) (bo+1) vr us ls:=⟨qD j.rq.z λg M=>k g λe=>j.own_ne j.hb Dd (by rw[M,e]),j.rq.C,λq hq=>qD (j.rq.l q hq) λg M=>k g λe=>Go.Proofs.YtfpjpngjikdaoaaGreat.own_ne (j.rq.l q hq) ⟨_,j.hb⟩ Dd (by rw[M,e]),j.rq.ap⟩;refine⟨⟨j.hb.set hi n,I,K,(k _ (yQ j.vb j.hb Dd)).trans j.vb,(k _ (yQ j.ob j.hb Dd)).trans j.ob,j.O.setCell j.low.2.2.2 _,j.sh,j.ap,j.low⟩,KpS.box (.inl rfl) O λ_=>TyR.of I K.z⟩
def JS.vis(j:JS B bo r v h vo c vn ls vr us w W)n:JS B bo r v h vo c n ls vr us w (sW W (az v 0) (ai n))/\KpS (jx0 h r v) (λ_=>False) W (sW W (az v 0) (ai n)):=by
 have O:=yQ j.rb j.vb Dd;have k:∀q,q≠v->(sC W v 0 (ai n)).1[q]?=W.1[q]?:=λq hq=>eG hq;have I:Boxed (sC W v 0 (ai n)) r 23 vr:=(k _ O).trans j.rb;have K:RQ (sC W v 0 (ai n)) (bo+1) vr us ls:=⟨qD j.rq.z λg M=>k g λe=>j.own_ne j.vb Dd (by rw[M,e]),j.rq.C,λq hq=>qD (j.rq.l q hq) λg M=>k g (j.ap q hq g M),j.rq.ap⟩;refine⟨⟨(k _ (yQ j.hb j.vb Dd)).trans j.hb,I,K,j.vb.set _,(k _ (yQ j.ob j.vb Dd)).trans j.ob,j.O.setCell j.low.2.2.1 _,j.sh,j.ap,j.low⟩,KpS.box (.inr rfl) O λ_=>TyR.of I K.z⟩
def JS.push(j:JS B bo r v h vo c vn ls vr us w W){o g cp u}{l:LI}(hu:oW W (bo+1) 3 1 u (E l) (l.map ai))(hn:∀i,i<E ls->∀g,(U us i tM).ownBlock=Q g->u.ownBlock≠Q g)(hv:u.ownBlock≠Q v)
 (K:oW w3 (bo+1) 24 1 (sZ g 0 (E ls+1) cp) (E ls+1) (us++[u])) (hg:(S W o).grownBy w3 vr.ownBlock) (a3:vr.ownBlock=Q g\/g=J (S W o).1):
 Boxed w3 r 23 vr/\JS B bo r v h vo c vn (ls++[l]) (sZ g 0 (E ls+1) cp) (us++[u]) w (sW w3 (az r 0) (sZ g 0 (E ls+1) cp))/\KpS (jx0 h r v) (λ_=>False) W (sW w3 (az r 0) (sZ g 0 (E ls+1) cp)):=by
 have hq:=j.rq.P hu hn K hg;have kk:∀q,q<J W.1->vr.ownBlock≠Q q->w3.1[q]?=W.1[q]?:=λq a4 I=>zD hg a4 λe=>I e.symm;have r3:Boxed w3 r 23 vr:=(kk _ j.rb.lt (j.own_ne j.rb Dd)).trans j.rb;have k:∀q,q≠r->(sC w3 r 0 (sZ g 0 (E ls+1) cp)).1[q]?=w3.1[q]?:=λq hq=>eG hq
 have M:g≠r:=λe=>Go.Proofs.YtfpjpngjikdaoaaGreat.own_ne K ⟨_,r3⟩ Dd (by rw[e];rfl);have O:=r3.set (sZ g 0 (E ls+1) cp);have a6:∀q,vr.ownBlock=Q q->RBk (jx0 h r v) W q:=λq hq=>by
  have⟨g0,k0,e⟩:=j.sh;rw[e]at hq;have:g0=q:=by simpa[wN]using hq
  subst this;exact⟨0,E ls,k0,by show eQ W (az r 0)=_;rw[j.rb.cell,e]⟩
 refine⟨r3,⟨?_,O,⟨qD hq.z λq I=>k q λe=>?_,hq.C,λi hi=>qD (hq.l i hi) λq I=>k q λe=>Go.Proofs.YtfpjpngjikdaoaaGreat.own_ne (hq.l i hi) ⟨_,r3⟩ Dd (by rw[I,e]),hq.ap⟩,?_,?_,?_,⟨g,cp,by rw[lA];rfl⟩,λi hi q I=>?_,j.low⟩,?_⟩;exact(k _ (yQ j.hb j.rb Dd)).trans ((kk _ (qZ j.hb) (j.own_ne j.hb Dd)).trans j.hb)
 .have:g=q:=by simpa[wN]using I
  exact M (this.trans e)
 exact(k _ (yQ j.vb j.rb Dd)).trans ((kk _ j.vb.lt (j.own_ne j.vb Dd)).trans j.vb);exact(k _ (yQ j.ob j.rb Dd)).trans ((kk _ j.ob.lt (λe=>by have:=(j.rq.z.lt _ e).1;omega)).trans j.ob)
 .have a7:B<=J W.1:=by have:=j.low.1;have:=j.ob.lt;omega
  refine((j.O.alloc a7 o).grown hg (by rw[aM];omega) λq I=>?_).setCell j.low.2.1 _;have h1:=(j.rq.z.lt q I).1;have h2:=j.low.1;omega
 .rw[lA,lS]at hi;by_cases V:i<E ls;rw[gD,aL (by rw[j.rq.C];exact V),<-gD]at I;exact j.ap i V q I;have a8:i=E us:=by rw[j.rq.C];omega
  rw[a8,gD,bQ eA,iV]at I;intro e;exact hv (by rw[<-e];exact I)
 refine KpS.x hg K ?_ M O a6;rcases a3 with h1|h1;exact .inl h1;exact .inr (by rw[h1,aM];omega)
def JS.reset(j:JS B bo r v h vo c vn ls vr us w W):JS B bo r v h vo c vn [] (sZ (J W.1) 0 0 0) [] w (sW (S W (eZ #[] 24)) (az r 0) (sZ (J W.1) 0 0 0))/\KpS (jx0 h r v) (λ_=>False) W (sW (S W (eZ #[] 24)) (az r 0) (sZ (J W.1) 0 0 0)):=by
 have I:=oM W (e:=24) (size:=1) (base:=bo+1) #[] 0 (O1 j.ob.lt) Dd rfl;have r3:Boxed (aJ W #[] 24) r 23 vr:=j.rb.alloc _;have k:∀q,q≠r->(sW (aJ W #[] 24) (az r 0) (sZ (J W.1) 0 0 0)).1[q]?=(aJ W #[] 24).1[q]?:=λq hq=>eG hq
 have K:J W.1≠r:=O1 j.rb.lt
 have M:=r3.set (sZ (J W.1) 0 0 0);have V:∀q,vr.ownBlock=Q q->RBk (jx0 h r v) W q:=λq hq=>by
  have⟨g0,k0,e⟩:=j.sh;rw[e]at hq;have:g0=q:=by simpa[wN]using hq
  subst this;exact⟨0,E ls,k0,by show eQ W (az r 0)=_;rw[j.rb.cell,e]⟩
 have ka:∀q o,W.1[q]?=Q o->(aJ W #[] 24).1[q]?=Q o:=λq o hq=>(eL (qZ hq)).trans hq;refine⟨⟨(k _ (yQ j.hb j.rb Dd)).trans (ka _ _ j.hb),M,⟨qD I λq hq=>k q λe=>?_,rfl,λi hi=>by simp at hi,λi q _ hq=>by simp at hq⟩,(k _ (yQ j.vb j.rb Dd)).trans (ka _ _ j.vb),(k _ (yQ j.ob j.rb Dd)).trans (ka _ _ j.ob),(j.O.alloc (by have:=j.low.1;have:=j.ob.lt;omega) _).setCell j.low.2.1 _,⟨_,_,rfl⟩,λi hi=>by simp at hi,j.low⟩,KpS.x (grownBy.refl _ _) I (.inr eA) K M V⟩;have:J W.1=q:=by simpa[wN]using hq
 exact K (this.trans e)
end
