import Derived.Test.YtcnfapnfmnolbaaGreatRq28
set_option maxHeartbeats 40000000
set_option maxRecDepth 1000000
namespace Go.Proofs.YtcnfapnfmnolbaaGreat
open Go.RowKit Meet Go.Shelf
variable {p:LI}{ps tot:LL}{m:Nat}
attribute [local go_sem] Oper.semAt_some
def LgG(x:JX)(nxt:LI->LI)(no l0:Nat):Prop:=∀(w:World) (bB bH:Nat) (vp vb:Value) (p:LI),p.length<no->x.Hd p->Dat x w->Brn x x.n0 w vp vb p->BrX w bB vp vb->x.n0<=bB->w.1[bH]?=some (.cells #[x.uh.getD p.length undef] 24 (0,0))->x.n0<=bH->¬RBk x w bH->
 Gives Tryz.prog 157 #[.pointer (some (az bB 0)),.pointer (some (az bH 0))] qBs (KpB x l0) (λ_ _ _=>True) (qGV x nxt p) (nxt p) w
def WkE(x:JX)(l:Nat)(J:LL->World->Prop)(Jx:World->Prop)(ys:LL)(Y:World)(e:Ending)(Z:World):Prop:=
 (e=.returned (.bool true)/\J ys Z/\KpS x (λk=>k=l) Y Z)∨(e=.returned (.bool false)/\Jx Z/\KpS x (λk=>k=l) Y Z)
def npQ(Q:Exit->Act->World->Prop):Exit->Act->World->Prop
 | .panic _,_,_=>False
 | .outgrown,_,_=>False
 |e,a,w=>Q e a w
theorem npQ.imp{Q:Exit->Act->World->Prop}:∀e a w,npQ Q e a w->Q e a w:=λe a w h=>by
 cases e with
 |panic c=>exact h.elim
 |outgrown=>exact h.elim
 |normal=>exact h
 |ret=>exact h
 |exit i=>exact h
 |goto t=>exact h
theorem qDn(nxt:LI->LI)(m:Nat)(p:LI):∃r,zE nxt m p=p::r:=by
 cases m with
 |zero=>exact⟨[],rfl⟩
 |succ m=>exact⟨_,rfl⟩
theorem qFF{nxt:LI->LI}(h:ps++zE nxt m p <+:tot):ps++[p] <+:tot:=by
 obtain⟨r,e⟩:=qDn nxt m p;rw[e]at h;exact List.IsPrefix.trans ⟨r,Ss⟩ h
theorem qFG{nxt:LI->LI}{pre:LI}{y:Int}(h:ps++zE nxt (m+1) p <+:tot)(I:pre++[y] <+:nxt p):ps++[p]++pre.flatMap (λy=>zE nxt m (p++[y]))++zE nxt m (p++[y]) <+:tot:=by
 obtain⟨r,e⟩:=I;refine List.IsPrefix.trans ⟨r.flatMap λy=>zE nxt m (p++[y]),?_⟩ h;have K:ps++zE nxt (m+1) p=ps++[p]++(nxt p).flatMap λy=>zE nxt m (p++[y]):=by rw[List.append_assoc];rfl
 rw[K,<-e,List.flatMap_append,List.flatMap_append,List.flatMap_singleton];simp only[List.append_assoc]
def WkC(x:JX)(nxt:LI->LI)(no l:Nat)(tot:LL)(J:LL->World->Prop)(Jx:World->Prop)(m:Nat):Prop:=∀(p:LI) (ps:LL) (X Y:World) (vp vb hvv:Value),p.length+m=no->ps++zE nxt m p <+:tot->x.Hd p->x.n0<=X.1.size->J ps X->KT x.n0 X Y->Dat x Y->Brn x X.1.size Y vp vb p->(∃g c,vp=.slice (some (az g 0)) p.length c)->HVs x no p.length hvv->
 Cl 109 #[.agg #[vp,vb],hvv,.func (.yield l) #[] #[]] Y (WkE x l J Jx (ps++zE nxt m p) Y)
theorem Vk(x:JX)(hx:x.Ok)(nxt:LI->LI)(no:Nat)(hm:JMx x nxt no)(k0:∀p,p.length<no->x.Hd p->∀y∈nxt p,x.Hd (p++[y]))(l:Nat)(hl:l<x.n0)(hG:LgG x nxt no l)(tot:LL)(J:LL->World->Prop)(Jx:World->Prop)
 (hJ:∀s X Y,J s X->KT x.n0 X Y->J s Y) (k1:∀X Y,Jx X->KT x.n0 X Y->Jx Y)
 (hY:∀ps p vp X Y,J ps X->KT x.n0 X Y->Y.ownsRow X.1.size 3 1 vp p.length (p.map ai)->p.length<=no->(∃g c,vp=.slice (some (az g 0)) p.length c)->ps++[p] <+:tot->YieldAt Fence.wide 0 Tryz.prog l #[vp] Y λe Z=>(e=.returned (.bool true)/\J (ps++[p]) Z/\KpS x (λk=>k=l) Y Z)∨(e=.returned (.bool false)/\Jx Z/\KpS x (λk=>k=l) Y Z))
 (m:Nat) (ih:∀m',m=m'+1->WkC x nxt no l tot J Jx m'):WkC x nxt no l tot J Jx m:=by
 intro p ps X Y vp vb hvv g8 c9 hd g9 k2 i0 g4 b0 k3 n5;have e0:x.n0<=Y.1.size:=bM g9 i0.bel.size;have k4:=hx.r;obtain⟨W1,a7⟩:=Ex ((((Y.alloc (.cells #[vp,vb] 143)).alloc (.cells #[hvv] 23)).alloc (.cells #[.func (.yield l) #[] #[]] 114)).alloc (.cells #[.bool false] 4));have b8:Bl Y W1:=by rw[a7];exact qD (qD (qD (qD (bJ _ _) _) _) _) _
 have d0:W1.1.size=Y.1.size+4:=by rw[a7];simp
 have e3:Frm Y.1.size l vp vb hvv W1 false:=by
  rw[a7];have a1:∀(W:World) (o:Obj) (k:Nat),k=W.1.size->(W.alloc o).1[k]?=some o:=λW o k hk=>by rw[hk];exact World.alloc_heap_new W o
  have a2:∀(W:World) (o o':Obj) (k:Nat),W.1[k]?=some o->(W.alloc o').1[k]?=some o:=λW o o' k hk=>(Below.heap_alloc _ _ _ (qW hk)).trans hk;exact⟨a2 _ _ _ _ (a2 _ _ _ _ (a2 _ _ _ _ (a1 _ _ _ rfl))),a2 _ _ _ _ (a2 _ _ _ _ (a1 _ _ _ Ss)),a2 _ _ _ _ (a1 _ _ _ Ss),a1 _ _ _ Ss⟩
 have k5:KT x.n0 X W1:=i0.trans (KT.of_below b8 e0);obtain⟨fn,tmps,assign,body,hy,hR⟩:=hY ps p vp X W1 k2 k5 (qB b0.pre b8) Oo k3 (qFF c9);have k6:=ay c9;clear c9;have HR:=ay hR;have i2:=ay e3;have n6:=ay b8;have i3:=ay (g4.kt (KT.of_below b8 e0) hx);have g5:=ay (b0.below b8);have c3:=e3.b3.c0;have c5:W1.cell? (az (Y.1.size+1+1) 0)=some (.func (.yield l) #[] #[]):=e3.c5;obtain⟨gp,cp,n7⟩:=k3;subst n7;obtain⟨ab,cb,n8⟩:=xY b0.bel;subst n8;obtain⟨hb,oh,ch,k7,n9,k8,k9⟩:=n5;subst n9;have d1:=ay (And.intro k7 (And.intro k8 k9));clear hR e3 b8 k5 i0 k2 g4 b0 k7 k8 k9;obtain⟨np,i4⟩:=Ex p.length;have r4:=ay i4;refine(callsIn_wide (n:=0)).1 (callsIn_of_wp_marks Tryz.func109 rfl trivial ?_ rfl);simp only[Tryz.ntmps109,List.size_toArray,List.length_cons,List.length_nil,Nat.reduceAdd,Nat.reduceSub,Array.replicate_succ,Array.replicate_zero,List.push_toArray,List.append_toArray,List.nil_append,List.cons_append];refine wpIn_mono (Q:=npQ (bodyPostM Fence.wide 0 Tryz.prog Tryz.f109 (WkE x l J Jx (ps++zE nxt m p) Y))) ?_ npQ.imp;refine(wpIn_wide (n:=0)).2 ?_;obtain⟨E,hE⟩:=Ex (WkE x l J Jx (ps++zE nxt m p) Y);rw[<-hE];have l0:Hh (∀Z,J (ps++zE nxt m p) Z->KpS x (λk=>k=l) Y Z->E (.returned (.bool true)) Z):=ay λZ h1 h2=>by rw[hE];exact Or.inl ⟨rfl,h1,h2⟩
 have l1:Hh (∀Z,Jx Z->KpS x (λk=>k=l) Y Z->E (.returned (.bool false)) Z):=ay λZ h1 h2=>by rw[hE];exact Or.inr ⟨rfl,h1,h2⟩
 clear hE;have HJ:=ay hJ;have e4:=ay k1;have HM:=ay hm;have HD:=ay hd;have HX:=ay hx;have HG:=ay hG;have o3:=ay k0;have o4:=ay ih;have HL:=ay hl;have I:=ay e0;have l3:=ay g9;have r5:=ay d0;have a5:=ay k4;have l4:=ay g8;have hlen:no-p.length=m:=Oo;clear hJ k1 hm hd hx hG k0 ih hl e0 hY g9 d0 k4 g8;rw[hlen]at a7 i2 d1 ⊢;clear hlen;rw[<-i4]at c3 hy g5 i2 a7 ⊢;clear i4;go_upto_region 1 with fail;rw[<-a7];clear a7;refine(wpIn_wide (n:=0)).1 ?_;gi_wp2
 refine⟨rfl,?_⟩;refine HR.o.mono ?_;rintro e O l5;have a3:KpS x (λk=>k=l) W1 O:=by
  rcases l5 with ⟨-,-,h⟩|⟨-,-,h⟩;exact h;exact h
 have a6:=ay (i2.o.kp a3 HX.o i3.o.ty I.o);have l6:Hh (KpS x (λk=>k=l) Y O):=ay ((KpS.of_below n6.o (by have:=I.o;have:=a5.o;omega)).trans a3);have e5:=ay (i3.o.kp a3 HX.o);have o5:=ay (g5.o.sb (a3.sb HX.o i3.o.ty) (by have:=l3.o;exact this));have e6:Hh (Y.1.size+3<O.1.size):=ay a6.o.lt;have d6:O.cell? (az (Y.1.size+1+1+1) 0)=some (.bool false):=a6.o.c6;have f6:O.frozen? (az (Y.1.size+1+1+1) 0)=false:=a6.o.f6;clear hy c3 c5 HR;have a4:Hh (∀r:Bool,KT x.n0 O (O.setCell (az (Y.1.size+1+1+1) 0) (.bool r))/\KpS x (λk=>k=l) Y (O.setCell (az (Y.1.size+1+1+1) 0) (.bool r))/\(O.setCell (az (Y.1.size+1+1+1) 0) (.bool r)).cell? (az (Y.1.size+1+1+1) 0)=some (.bool r)):=ay λr=>by
  obtain⟨h1,h2⟩:=a6.o.set r;exact⟨h2.mono (by have:=I.o;omega),l6.o.kt (h2.mono Oo) (by have:=I.o;have:=a5.o;omega),h1.c6⟩
 rcases l5 with ⟨rfl,l7,-⟩|⟨rfl,l8,-⟩
 ·have l9:=ay l7;clear l7 a3;have d4:O.cell? (az (Y.1.size+1) 0)=some (.slice (some (az hb oh)) m ch):=a6.o.c4;gi_wp2
  cases m with
  |zero=>
   have r6:=(a4.o true).2.2;have V:=ay (l0.o _ (HJ.o _ _ _ l9.o (a4.o true).1) (a4.o true).2.1);go_wp2_with fail;exact⟨.bool true,by simp[results,Tryz.results109,go_sem,r6],V.o⟩
  |succ m=>
   have q0:(((m+1:Nat):Int) == 0)=false:=Sy;have b7:p.length<no:=by have:=l4.o;omega
   obtain⟨av,cv,e7⟩:=xY (e5.o.hq.each p.length (by rw[HM.o.hl];exact b7));have e8:=HVs.cell HM.o e5.o b7 d1.o.1;have i5:oh=p.length:=d1.o.2.1 Oo;obtain⟨nv,m0⟩:=Ex ((x.hav.getD p.length []).length);rw[<-m0]at e7;rw[e7]at e8;rw[<-i5]at e8;have o6:=ay i5;have o7:=ay e7;clear i5 e7 m0;have i6:Hh (∀W,Bl O W->W.cell? (az Y.1.size 0)=some (.slice (some (az gp 0)) np cp)/\W.cell? (az Y.1.size 1)=some (.slice ab x.nT cb)/\W.cell? (az (Y.1.size+1) 0)=some (.slice (some (az hb oh)) (m+1) ch)/\W.cell? (az hb oh)=some (.slice av nv cv)/\Bl O W):=ay λW hW=>⟨(a6.o.b3.below hW).c0,(a6.o.b3.below hW).c1,xL hW d4,xL hW e8,hW⟩;have i1:(0:Int)<(((m+1:Nat)):Int):=Oo;go_upto_region 5 with fail;clear d4 e8;go_region_held_law (λW=>W.cell? (az Y.1.size 0)=some (.slice (some (az gp 0)) np cp)/\W.cell? (az Y.1.size 1)=some (.slice ab x.nT cb)/\W.cell? (az (Y.1.size+1) 0)=some (.slice (some (az hb oh)) (m+1) ch)/\W.cell? (az hb oh)=some (.slice av nv cv)/\Bl O W)
    (first|(with_reducible exact i6.o _ (bJ _ _).drew)|(with_reducible exact i6.o _ o8)|(with_reducible exact i6.o _ (zD (qD (qD (bJ _ _) _) _)))|fail)
    (first
     |(go_simp;go_at_call 131;refine(Jd _ _ _ _ _ _ _ _ _ _).mono ?_;rintro e w2 ⟨rfl,o9⟩;have o8:Bl O w2:=(by rw[o9];exact qD (qD (bJ _ _).drew _) _))
     |fail)
   go_wp2_with fail;obtain⟨Wl,b9⟩:=Ex (((O.alloc (.cells #[(.slice (some (az gp 0)) np cp),(.slice ab x.nT cb)] 143)).alloc (.cells #[.slice av nv cv] 24)).drew);rw[<-b9];have f7:Bl O Wl:=by rw[b9];exact zD (qD (qD (bJ _ _) _) _)
   have m1:Wl.1.size=O.1.size+2:=by rw[b9];show((O.alloc _).alloc _).1.size=_;simp
   have p4:BrX Wl O.1.size (.slice (some (az gp 0)) np cp) (.slice ab x.nT cb):=by rw[b9];exact(Below.heap_alloc _ _ _ Ss).trans (World.alloc_heap_new O _)
   have p5:Wl.1[O.1.size+1]?=some (.cells #[.slice av nv cv] 24 (0,0)):=by
    rw[b9];have:=World.alloc_heap_new (O.alloc (.cells #[(.slice (some (az gp 0)) np cp),(.slice ab x.nT cb)] 143)) (.cells #[.slice av nv cv] 24);rw[World.size_alloc]at this;exact this
   have m2:x.n0<=O.1.size:=by have:=e6.o;have:=I.o;omega
   have i7:KT x.n0 O Wl:=KT.of_below f7 m2;have m3:=e5.o.kt i7 HX.o;have p6:=(o5.o.below f7);have p7:¬RBk x Wl (O.1.size+1):=qGW e5.o.ty (i7.bel.block _ a5.o) (Nat.le_succ _);have f8:WI x l (λW=>J (ps++[p]++([]:LI).flatMap λy=>zE nxt m (p++[y])) W) Y (.slice (some (az gp 0)) np cp) (.slice ab x.nT cb) (.slice (some (az hb oh)) (m+1) ch) Wl:=by
    refine⟨?_,l6.o.kt (KT.of_below f7 (by have:=e6.o;omega):KT Y.1.size O Wl) (by have:=I.o;have:=a5.o;omega),a6.o.bel f7 (by have:=e6.o;omega),m3⟩;have:=HJ.o _ _ _ l9.o i7;simpa using this
   have hg:=HG.o Wl O.1.size (O.1.size+1) (.slice (some (az gp 0)) np cp) (.slice ab x.nT cb) p b7 HD.o m3 (p6.base l3.o) p4 m2 (by rw[o7.o];exact p5) Oo p7;have d2:Y.1.size+3<Wl.1.size:=by have:=e6.o;omega
   have d3:x.n0<=Wl.1.size:=Oo;have r7:x.r<Wl.1.size:=by have:=a5.o;omega
   clear b9;have r8:=ay m1;clear m1;obtain⟨II,a8⟩:=Ex (λpre W=>WI x l (λW=>J (ps++[p]++pre.flatMap λy=>zE nxt m (p++[y])) W) Y (.slice (some (az gp 0)) np cp) (.slice ab x.nT cb) (.slice (some (az hb oh)) (m+1) ch) W:LI->World->Prop);obtain⟨IX,c8⟩:=Ex (λc W=>c=.ret/\Jx W/\KpS x (λk=>k=l) Y W/\W.cell? (az (Y.1.size+1+1+1) 0)=some (.bool false):Code->World->Prop);have m4:=ay a8;have p8:=ay c8;refine(wpIn_wide (n:=0)).1 ?_;refine jh (α:=Int) (β:=Value×Value) (gf:=157) (lb:=#[.pointer (some (az O.1.size 0)),.pointer (some (az (O.1.size+1) 0))]) rfl (enters_of Tryz.func157 Kl rfl) hg (λ_=>rfl)
    (λh1 h2=>KpS.trans h1 h2) (λl2 W o o' h1 h2 h3=>KpS.put (Or.inr rfl) h2 h3 Oo) (λ_ _ _=>trivial)
    II IX
    (λs A C hA hk=>by rw[a8]at hA ⊢;exact WI.kt hA HX.o I.o (HJ.o _) hk d2)
    (λc A C hA hk=>by rw[c8]at hA ⊢;exact⟨hA.1,e4.o _ _ hA.2.1 (hk.mono d3),hA.2.2.1.kt (hk.mono Oo) (by have:=I.o;have:=a5.o;omega),(hk.bel.cell (p:=(az (Y.1.size+1+1+1) 0)) d2).trans hA.2.2.2⟩)
    (by rw[a8];exact f8)
    (λl2 pre y b a' W=>∃bq,WA x l (λW=>J (ps++[p]++pre.flatMap λy=>zE nxt m (p++[y])) W) Y (.slice (some (az gp 0)) np cp) (.slice ab x.nT cb) (.slice (some (az hb oh)) (m+1) ch) p y b.1 b.2 bq W/\pre++[y] <+:nxt p/\(∃g c,b.1=.slice (some (az g 0)) (p.length+1) c)/\(∃g c,b.2=.slice (some (az g 0)) x.nT c)/\a'={ tmps:=#[.agg #[(.slice (some (az gp 0)) np cp),(.slice ab x.nT cb)],(.slice (some (az hb oh)) (m+1) ch),.func (.yield l) #[] #[],.pointer (some (az Y.1.size 0)),.pointer (some (az (Y.1.size+1) 0)),.pointer (some (az (Y.1.size+1+1) 0)),.pointer (some (az (Y.1.size+1+1+1) 0)),.pointer (some (az bq 0)),.func (.yield l) #[] #[],.pointer (some (az Y.1.size 0)),(.slice (some (az gp 0)) np cp),.bool true,.bool false,(.slice (some (az hb oh)) (m+1) ch),ai ((m:Int)+1),.bool false,.agg #[(.slice (some (az gp 0)) np cp),(.slice ab x.nT cb)],(.slice (some (az hb oh)) (m+1) ch),.pointer (some (az hb oh)),.slice av nv cv,.func (.func 157) #[] #[.pointer (some (az O.1.size 0)),.pointer (some (az (O.1.size+1) 0))],.agg #[b.1,b.2],undef,undef,undef,undef,undef,undef],defers:=[] })
    (λl2 pre y b a' W o o' ⟨bq,h1,h2⟩ i8 h3 h4=>⟨bq,h1.kt HX.o I.o (KT.put (B:=Wl.1.size) o' i8 h3 h4) d2,h2⟩)
    ?assign ?body ?done ?stop
   case assign=>
    rintro l2 pre y ⟨b1,b2⟩ A C K i8 hI hk ⟨m5,f9,⟨g1,c1,e1⟩,⟨g2,c2,e2⟩⟩ ⟨rr,i9⟩ hK;dsimp only at e1 e2 m5;subst e1 e2;rw[m4.o]at hI;have p9:=WI.kt hI HX.o I.o (HJ.o _) hk d2;have q1:Wl.1.size<=C.1.size:=by have:=qW i9;omega
    have j0:Bl C (C.alloc (.cells #[.slice (some (az g1 0)) (p.length+1) c1,.slice (some (az g2 0)) x.nT c2] 143)):=(bJ _ _).alloc (nR _) _;have m6:=KT.of_below j0 q1;have d5:=p9.kt HX.o I.o (HJ.o _) m6 d2;have q2:x.n0<=A.1.size:=by have:=hI.fr.lt;have:=I.o;omega
    dsimp only[qBs];gi_wp2
    exact hK _ _ ((KeepsOthers.alloc _ _).from _) (KpS.of_below j0 Oo) ⟨C.1.size,⟨d5.kp,d5.fr,d5.dat,BrX.new C _ _,A,hI.j,(hk.mono d3).trans (m6.mono d3),q2,m5.below j0⟩,f9,⟨g1,c1,rfl⟩,⟨g2,c2,rfl⟩,rfl⟩
   case body=>
    rintro l2 pre y ⟨b1,b2⟩ a' W i8 ⟨rr,i9⟩ ⟨bq,M,f9,⟨g1,c1,e1⟩,⟨g2,c2,e2⟩,rfl⟩;dsimp only at e1 e2 M;subst e1 e2;have c7:=M.bx.c0;have r9:=M.bx.c1;have c4:W.cell? (az (Y.1.size+1) 0)=some (.slice (some (az hb oh)) (m+1) ch):=M.fr.c4;have c5:W.cell? (az (Y.1.size+1+1) 0)=some (.func (.yield l) #[] #[]):=M.fr.c5;have c6:W.cell? (az (Y.1.size+1+1+1) 0)=some (.bool false):=M.fr.c6;have f6:W.frozen? (az (Y.1.size+1+1+1) 0)=false:=M.fr.f6;have s3:=ay M;have q9:Tryz.prog.follows .mixedOrders=true:=Kl;have j1:(1:Int)<=(((m+1:Nat)):Int):=Oo;have s4:=d1.o.2.2;have j2:(1:Int)<=(ch:Int):=Oo;have j3:(((m+1:Nat)):Int)<=(ch:Int):=Oo;have r3:=qW i9;have m7:x.r<W.1.size:=Oo;have d7:Bl W W.drew:=(bJ _ _).drew;have j4:KT x.n0 W W.drew:=KT.of_below d7 Oo;have KW:Hh (∀o c,(0<m->o=oh+1)->m<=c->Cl 109 #[.agg #[.slice (some (az g1 0)) (p.length+1) c1,.slice (some (az g2 0)) x.nT c2],.slice (some (az hb o)) m c,.func (.yield l) #[] #[]] W.drew λe U=>∃r:Bool,e=.returned (.bool r)/\Hh ((r=true/\J (ps++[p]++pre.flatMap (λy=>zE nxt m (p++[y]))++zE nxt m (p++[y])) U/\KpS x (λk=>k=l) W.drew U)∨(r=false/\Jx U/\KpS x (λk=>k=l) W.drew U))):=ay λo c h1 h2=>by
     obtain⟨A,q3,q4,q5,q6⟩:=M.src;have d8:(p++[y]).length=p.length+1:=Ss;have g8:=l4.o;refine Calls.mono (R:=WkE x l J Jx (ps++[p]++pre.flatMap (λy=>zE nxt m (p++[y]))++zE nxt m (p++[y])) W.drew) ?_ (λe U h=>by
      rcases h with ⟨rfl,h4,h5⟩|⟨rfl,h4,h5⟩;exact⟨true,rfl,ay (Or.inl ⟨rfl,h4,h5⟩)⟩;exact⟨false,rfl,ay (Or.inr ⟨rfl,h4,h5⟩)⟩)
     refine o4.o m rfl (p++[y]) _ A W.drew _ _ _ (by rw[d8];omega) (qFG k6.o f9) (o3.o p b7 HD.o y (f9.subset Ss)) q5 q3 (q4.trans j4) (M.dat.kt j4 HX.o) (q6.below d7) ⟨g1,c1,by rw[d8]⟩ ⟨hb,o,c,d1.o.1,by rw[d8,show no-(p.length+1)=m by omega],λh3=>?_,by rw[d8];omega⟩;rw[d8]at h3 ⊢;rw[h1 Oo,o6.o]
    have m8:Hh (∀U,J (ps++[p]++pre.flatMap (λy=>zE nxt m (p++[y]))++zE nxt m (p++[y])) U->KpS x (λk=>k=l) W.drew U->KeepsFrom Wl.1.size W U/\KpB x l l2 W U/\II (pre++[y]) U):=ay λU h1 h2=>by
     rw[m4.o];have h3:KpS x (λk=>k=l) W U:=(KpS.of_below d7 m7).trans h2;refine⟨h3.keeps HX.o M.dat.ty d3 (by have:=HL.o;omega),h3.sub λk hk=>Or.inl hk,?_,M.kp.trans h3,M.fr.kp h3 HX.o M.dat.ty I.o,M.dat.kp h3 HX.o⟩;show J (ps++[p]++(pre++[y]).flatMap λy=>zE nxt m (p++[y])) U;rw[List.flatMap_append,List.flatMap_singleton,<-List.append_assoc];exact h1
    have g6:Hh (∀U,Jx U->KpS x (λk=>k=l) W.drew U->U.cell? (az (Y.1.size+1+1+1) 0)=some (.bool false)/\U.frozen? (az (Y.1.size+1+1+1) 0)=false/\KeepsFrom Wl.1.size W (U.setCell (az (Y.1.size+1+1+1) 0) (.bool false))/\IX .ret (U.setCell (az (Y.1.size+1+1+1) 0) (.bool false))):=ay λU h1 h2=>by
     have h3:KpS x (λk=>k=l) W U:=(KpS.of_below d7 m7).trans h2;have h4:=M.fr.kp h3 HX.o M.dat.ty I.o;obtain⟨h5,h6⟩:=h4.set false;have h7:=(M.kp.trans h3).kt (h6.mono Oo) (by have:=I.o;have:=a5.o;omega);rw[p8.o];refine⟨h4.c6,h4.f6,?_,rfl,e4.o _ _ h1 (h6.mono (by have:=I.o;omega)),h7,h5.c6⟩;have h8:=h3.keeps HX.o M.dat.ty d3 (by have:=HL.o;omega);exact⟨bM h8.size h6.bel.size,λk o hk h0 ho=>(bD _ _ _ _ (by show k≠Y.1.size+3;omega)).trans (h8.same k o hk h0 ho)⟩
    clear M d7 j4 a8 c8 f8;by_cases s5:ch=1
    ·have m9:m=0:=Oo;have n1:=ay m9;clear m9;gi_wp2
     gi_region_with_o (refine⟨trivial,rfl,?_⟩;refine(CallsIn.inRound l2 (callsIn_wide.2 (KW.o oh 0 (λh=>by have:=n1.o;omega) (by have:=n1.o;omega)))).mono ?_;rintro e U ⟨rb,rfl,j5⟩)
     all_goals(first
      |(rcases j5.o with ⟨rfl,j6,a9⟩|⟨rfl,d9,a9⟩
        ·obtain⟨p1,p2,p3⟩:=m8.o U j6 a9
         gi_wp2
         exact⟨p1,p2,p3⟩
        obtain⟨s1,s2,p1,p2⟩:=g6.o U d9 a9
        gi_wp2
        exact⟨p1,trivial,p2⟩))
    have g7:m<=ch-1:=Oo;have q7:=ay g7;clear g7;gi_wp2
    gi_region_with_o (refine⟨trivial,rfl,?_⟩;refine(CallsIn.inRound l2 (callsIn_wide.2 (KW.o (oh+1) (ch-1) (λ_=>rfl) q7.o))).mono ?_;rintro e U ⟨rb,rfl,j5⟩)
    all_goals(first
     |(rcases j5.o with ⟨rfl,j6,a9⟩|⟨rfl,d9,a9⟩
       ·obtain⟨p1,p2,p3⟩:=m8.o U j6 a9
        gi_wp2
        exact⟨p1,p2,p3⟩
       obtain⟨s1,s2,p1,p2⟩:=g6.o U d9 a9
       gi_wp2
       exact⟨p1,trivial,p2⟩))
   case done=>
    intro D W hD hI hK;rw[a8]at hI;have q8:D≠Y.1.size+3:=Oo;obtain⟨d0,n2⟩:=hI.fr.set true;have n3:(W.setCell (az (Y.1.size+1+1+1) 0) (.bool true)).1[D]?=some (.deferred (some [])):=(bD _ _ _ _ (by exact q8)).trans hK;have hp:=KT.put (B:=Y.1.size) (.deferred none) Oo n3 rfl;have n4:KT Y.1.size W ((W.setCell (az (Y.1.size+1+1+1) 0) (.bool true)).putObj D (.deferred none)):=(n2.mono Oo).trans hp;have r6:((W.setCell (az (Y.1.size+1+1+1) 0) (.bool true)).putObj D (.deferred none)).cell? (az (Y.1.size+1+1+1) 0)=some (.bool true):=(bF (w:=W.setCell (az (Y.1.size+1+1+1) 0) (.bool true)) (a:=(az (Y.1.size+1+1+1) 0)) (World.putObj_heap_other (by show Y.1.size+1+1+1≠D;omega))).trans d0.c6;have V:Hh (E (.returned (.bool true)) ((W.setCell (az (Y.1.size+1+1+1) 0) (.bool true)).putObj D (.deferred none))):=ay (l0.o _ (by
     have h9:=HJ.o _ _ _ hI.j (n4.mono I.o);have e9:ps++zE nxt (m+1) p=ps++[p]++(nxt p).flatMap λy=>zE nxt m (p++[y]):=by rw[List.append_assoc];rfl
     rw[e9];exact h9) (hI.kp.kt n4 (by have:=I.o;have:=a5.o;omega)))
    have w6:W.cell? (az (Y.1.size+1+1+1) 0)=some (.bool false):=hI.fr.c6;have wf:W.frozen? (az (Y.1.size+1+1+1) 0)=false:=hI.fr.f6;simp only[Exit.inBlock,Exit.then];clear hI a8 c8 f8 d0 n2;go_wp2_with fail;exact⟨Ss,Or.inl ⟨D,_,rfl,run_takeDeferred n3,.bool true,by simp[results,Tryz.results109,go_sem,r6],V.o⟩⟩
   case stop=>
    intro D c W hD hI hK;rw[c8]at hI;obtain⟨rfl,h1,h2,h3⟩:=hI;have hp:=KT.put (B:=Y.1.size) (.deferred none) Oo hK rfl;have r6:(W.putObj D (.deferred none)).cell? (az (Y.1.size+1+1+1) 0)=some (.bool false):=(bF (w:=W) (a:=(az (Y.1.size+1+1+1) 0)) (World.putObj_heap_other (by show Y.1.size+1+1+1≠D;omega))).trans h3;have V:=ay (l1.o _ (e4.o _ _ h1 (hp.mono I.o)) (h2.kt hp (by have:=I.o;have:=a5.o;omega)));clear h1 h2 h3 a8 c8 f8;gi_wp2
    exact⟨Ss,Or.inl ⟨D,_,rfl,run_takeDeferred hK,.bool false,by simp[results,Tryz.results109,go_sem,r6],V.o⟩⟩
 have r6:=(a4.o false).2.2;have V:=ay (l1.o _ (e4.o _ _ l8 (a4.o false).1) (a4.o false).2.1);clear a3;gi_wp2
 go_wp2_with fail;exact⟨.bool false,by simp[results,Tryz.results109,go_sem,r6],V.o⟩
theorem Xz(x:JX)(O:x.Ok)(nxt:LI->LI)(no:Nat)(U:JMx x nxt no)(I:∀p,p.length<no->x.Hd p->∀y∈nxt p,x.Hd (p++[y]))(l:Nat)(hl:l<x.n0)(V:LgG x nxt no l)(tot:LL)(J:LL->World->Prop)(K:World->Prop)
 (hJ:∀s X Y,J s X->KT x.n0 X Y->J s Y) (M:∀X Y,K X->KT x.n0 X Y->K Y)
 (hY:∀ps p vp X Y,J ps X->KT x.n0 X Y->Y.ownsRow X.1.size 3 1 vp p.length (p.map ai)->p.length<=no->(∃g c,vp=.slice (some (az g 0)) p.length c)->ps++[p] <+:tot->YieldAt Fence.wide 0 Tryz.prog l #[vp] Y λe Z=>(e=.returned (.bool true)/\J (ps++[p]) Z/\KpS x (λk=>k=l) Y Z)∨(e=.returned (.bool false)/\K Z/\KpS x (λk=>k=l) Y Z)):
 ∀m,WkC x nxt no l tot J K m
 |0=>Vk x O nxt no U I l hl V tot J K hJ M hY 0 λm' h=>Oo
 |m+1=>Vk x O nxt no U I l hl V tot J K hJ M hY (m+1) λm' h=>by
  obtain rfl:m'=m:=Oo;exact Xz x O nxt no U I l hl V tot J K hJ M hY m'
end Go.Proofs.YtcnfapnfmnolbaaGreat
