import Derived.Test.YtjbpgdpciinlcaaGreatBg33
set_option maxHeartbeats 40000000
set_option maxRecDepth 1000000
namespace Go.Proofs.YtjbpgdpciinlcaaGreat
open Go.RowKit Meet Go.Shelf
variable {ps tot:List (List Int)}{p:List Int}{m:Nat}
attribute [local go_sem] Oper.semAt_some
def LgG(x:JX)(nxt:List Int->List Int)(no l0:Nat):Prop:=∀(w:World) (bB bH:Nat) (vp vb:Value) (p:List Int),p.length < no->x.Hd p->Dat x w->Brn x x.n0 w vp vb p->BrX w bB vp vb->x.n0<=bB->w.heap[bH]?=some (.cells #[x.uh.getD p.length undef] 24 (0,0))->x.n0<=bH->¬RB x w bH->
 Gives Tryz.prog 159 #[.pointer (some ⟨bB,0,none⟩),.pointer (some ⟨bH,0,none⟩)] Ku (KpB x l0) (fun _ _ _=>True) (qEA x nxt p) (nxt p) w
def WkE(x:JX)(l:Nat)(J:List (List Int)->World->Prop)(Jx:World->Prop)(ys:List (List Int))(Y:World)(e:Ending)(Z:World):Prop:=
 (e=.returned (.bool true)/\J ys Z/\KpS x (fun k=>k=l) Y Z)∨(e=.returned (.bool false)/\Jx Z/\KpS x (fun k=>k=l) Y Z)
def npQ(Q:Exit->Act->World->Prop):Exit->Act->World->Prop
 | .panic _,_,_=>False
 | .outgrown,_,_=>False
 |e,a,w=>Q e a w
theorem npQ.imp{Q:Exit->Act->World->Prop}:∀e a w,npQ Q e a w->Q e a w:=fun e a w h=>by
 cases e with
 |panic c=>exact h.elim
 |outgrown=>exact h.elim
 |normal=>exact h
 |ret=>exact h
 |exit i=>exact h
 |goto t=>exact h
theorem qBs(nxt:List Int->List Int)(m:Nat)(p:List Int):∃r,qp nxt m p=p::r:=by
 cases m with
 |zero=>exact⟨[],rfl⟩
 |succ m=>exact⟨_,rfl⟩
theorem qC7{nxt:List Int->List Int}(h:ps++qp nxt m p <+:tot):ps++[p] <+:tot:=by
 obtain⟨r,e⟩:=qBs nxt m p;rw[e]at h;exact List.IsPrefix.trans ⟨r,by simp⟩ h
theorem qC8{nxt:List Int->List Int}{pre:List Int}{y:Int}(h:ps++qp nxt (m+1) p <+:tot)(hp:pre++[y] <+:nxt p):ps++[p]++pre.flatMap (fun y=>qp nxt m (p++[y]))++qp nxt m (p++[y]) <+:tot:=by
 obtain⟨r,e⟩:=hp;refine List.IsPrefix.trans ⟨r.flatMap fun y=>qp nxt m (p++[y]),?_⟩ h;have e9:ps++qp nxt (m+1) p=ps++[p]++(nxt p).flatMap fun y=>qp nxt m (p++[y]):=by rw[List.append_assoc];rfl
 rw[e9,<-e,List.flatMap_append,List.flatMap_append,List.flatMap_singleton];simp only[List.append_assoc]
def WkC(x:JX)(nxt:List Int->List Int)(no l:Nat)(tot:List (List Int))(J:List (List Int)->World->Prop)(Jx:World->Prop)(m:Nat):Prop:=∀(p:List Int) (ps:List (List Int)) (X Y:World) (vp vb hvv:Value),p.length+m=no->ps++qp nxt m p <+:tot->x.Hd p->x.n0<=X.heap.size->J ps X->KT x.n0 X Y->Dat x Y->Brn x X.heap.size Y vp vb p->(∃g c,vp=.slice (some ⟨g,0,none⟩) p.length c)->HVs x no p.length hvv->
 Cl 109 #[.agg #[vp,vb],hvv,.func (.yield l) #[] #[]] Y (WkE x l J Jx (ps++qp nxt m p) Y)
theorem YD(x:JX)(hx:x.Ok)(nxt:List Int->List Int)(no:Nat)(hm:JMx x nxt no)(hsn:∀p,p.length < no->x.Hd p->∀y∈nxt p,x.Hd (p++[y]))(l:Nat)(hl:l < x.n0)(hG:LgG x nxt no l)(tot:List (List Int))(J:List (List Int)->World->Prop)(Jx:World->Prop)
 (hJ:∀s X Y,J s X->KT x.n0 X Y->J s Y) (hJx:∀X Y,Jx X->KT x.n0 X Y->Jx Y)
 (hY:∀ps p vp X Y,J ps X->KT x.n0 X Y->Y.ownsRow X.heap.size 3 1 vp p.length (p.map (Value.int .i64))->p.length<=no->(∃g c,vp=.slice (some ⟨g,0,none⟩) p.length c)->ps++[p] <+:tot->YieldAt Fence.wide 0 Tryz.prog l #[vp] Y fun e Z=>(e=.returned (.bool true)/\J (ps++[p]) Z/\KpS x (fun k=>k=l) Y Z)∨(e=.returned (.bool false)/\Jx Z/\KpS x (fun k=>k=l) Y Z))
 (m:Nat) (ih:∀m',m=m'+1->WkC x nxt no l tot J Jx m'):WkC x nxt no l tot J Jx m:=by
 intro p ps X Y vp vb hvv hpm htot hd hXn hJX hKT hdat hbrn hvp hhv;have hYn:x.n0<=Y.heap.size:=bK hXn hKT.bel.size;have hrn:=hx.r;obtain⟨W1,hW1⟩:∃W1,W1=(((Y.alloc (.cells #[vp,vb] 134)).alloc (.cells #[hvv] 23)).alloc (.cells #[.func (.yield l) #[] #[]] 98)).alloc (.cells #[.bool false] 4):=⟨_,rfl⟩;have hB1:Bl Y W1:=by rw[hW1];exact qE (qE (qE (qE (bI _ _) _) _) _) _
 have hs1:W1.heap.size=Y.heap.size+4:=by rw[hW1];simp
 have hF1:Frm Y.heap.size l vp vb hvv W1 false:=by
  rw[hW1];have a1:∀(W:World) (o:Obj) (k:Nat),k=W.heap.size->(W.alloc o).heap[k]?=some o:=fun W o k hk=>by rw[hk];exact World.alloc_heap_new W o
  have a2:∀(W:World) (o o':Obj) (k:Nat),W.heap[k]?=some o->(W.alloc o').heap[k]?=some o:=fun W o o' k hk=>(Below.heap_alloc _ _ _ (qR hk)).trans hk;exact⟨a2 _ _ _ _ (a2 _ _ _ _ (a2 _ _ _ _ (a1 _ _ _ rfl))),a2 _ _ _ _ (a2 _ _ _ _ (a1 _ _ _ (by simp))),a2 _ _ _ _ (a1 _ _ _ (by simp)),a1 _ _ _ (by simp)⟩
 have hK1:KT x.n0 X W1:=hKT.trans (KT.of_below hB1 hYn);obtain⟨fn,tmps,assign,body,hy,hR⟩:=hY ps p vp X W1 hJX hK1 (qB hbrn.pre hB1) (by omega) hvp (qC7 htot);have HTOT:=hid htot;clear htot;have HR:=hid hR;have HF1:=hid hF1;have HB1:=hid hB1;have HD1:=hid (hdat.kt (KT.of_below hB1 hYn) hx);have HBr1:=hid (hbrn.below hB1);have c3:=hF1.b3.c0;have c5:W1.cell? ⟨Y.heap.size+1+1,0,none⟩=some (.func (.yield l) #[] #[]):=hF1.c5;obtain⟨gp,cp,evp⟩:=hvp;subst evp;obtain⟨ab,cb,evb⟩:=xG hbrn.bel;subst evb;obtain⟨hb,oh,ch,hhb,ehv,hho,hhc⟩:=hhv;subst ehv;have HHV:=hid (And.intro hhb (And.intro hho hhc));clear hR hF1 hB1 hK1 hKT hJX hdat hbrn hhb hho hhc;obtain⟨np,hnp⟩:∃np,np=p.length:=⟨_,rfl⟩;have HNP:=hid hnp;refine(callsIn_wide (n:=0)).1 (callsIn_of_wp_marks Tryz.func109 rfl trivial ?_ rfl);simp only[Tryz.ntmps109,List.size_toArray,List.length_cons,List.length_nil,Nat.reduceAdd,Nat.reduceSub,Array.replicate_succ,Array.replicate_zero,List.push_toArray,List.append_toArray,List.nil_append,List.cons_append];refine wpIn_mono (Q:=npQ (bodyPostM Fence.wide 0 Tryz.prog Tryz.f109 (WkE x l J Jx (ps++qp nxt m p) Y))) ?_ npQ.imp;refine(wpIn_wide (n:=0)).2 ?_;obtain⟨E,hE⟩:∃E,E=WkE x l J Jx (ps++qp nxt m p) Y:=⟨_,rfl⟩;rw[<-hE];have HEt:Hid (∀Z,J (ps++qp nxt m p) Z->KpS x (fun k=>k=l) Y Z->E (.returned (.bool true)) Z):=hid fun Z h1 h2=>by rw[hE];exact Or.inl ⟨rfl,h1,h2⟩
 have HEf:Hid (∀Z,Jx Z->KpS x (fun k=>k=l) Y Z->E (.returned (.bool false)) Z):=hid fun Z h1 h2=>by rw[hE];exact Or.inr ⟨rfl,h1,h2⟩
 clear hE;have HJ:=hid hJ;have HJx:=hid hJx;have HM:=hid hm;have HD:=hid hd;have HX:=hid hx;have HG:=hid hG;have HSN:=hid hsn;have HIH:=hid ih;have HL:=hid hl;have HYN:=hid hYn;have HXN:=hid hXn;have HS1:=hid hs1;have HRN:=hid hrn;have HPM:=hid hpm;have hlen:no - p.length=m:=by omega
 clear hJ hJx hm hd hx hG hsn ih hl hYn hY hXn hs1 hrn hpm;rw[hlen]at hW1 HF1 HHV ⊢;clear hlen;rw[<-hnp]at c3 hy HBr1 HF1 hW1 ⊢;clear hnp;go_upto_region 1 with fail
 rw[<-hW1];clear hW1;refine(wpIn_wide (n:=0)).1 ?_;gi_wp2
 refine⟨rfl,?_⟩;refine HR.out.mono ?_;rintro e Z1 hor
 have hKor:KpS x (fun k=>k=l) W1 Z1:=by
  rcases hor with ⟨-,-,h⟩|⟨-,-,h⟩
  ·exact h
  ·exact h
 have HFZ:=hid (HF1.out.kp hKor HX.out HD1.out.ty HYN.out);have HKZ:Hid (KpS x (fun k=>k=l) Y Z1):=hid ((KpS.of_below HB1.out (by have:=HYN.out;have:=HRN.out;omega)).trans hKor);have HDZ:=hid (HD1.out.kp hKor HX.out);have HBZ:=hid (HBr1.out.sb (hKor.sb HX.out HD1.out.ty) (by have:=HXN.out;exact this));have HSZ:Hid (Y.heap.size+3 < Z1.heap.size):=hid HFZ.out.lt;have d6:Z1.cell? ⟨Y.heap.size+1+1+1,0,none⟩=some (.bool false):=HFZ.out.c6;have f6:Z1.frozen? ⟨Y.heap.size+1+1+1,0,none⟩=false:=HFZ.out.f6;clear hy c3 c5 HR
 have HSet:Hid (∀r:Bool,KT x.n0 Z1 (Z1.setCell ⟨Y.heap.size+1+1+1,0,none⟩ (.bool r))/\KpS x (fun k=>k=l) Y (Z1.setCell ⟨Y.heap.size+1+1+1,0,none⟩ (.bool r))/\(Z1.setCell ⟨Y.heap.size+1+1+1,0,none⟩ (.bool r)).cell? ⟨Y.heap.size+1+1+1,0,none⟩=some (.bool r)):=hid fun r=>by
  obtain⟨h1,h2⟩:=HFZ.out.set r;exact⟨h2.mono (by have:=HYN.out;omega),HKZ.out.kt (h2.mono (by omega)) (by have:=HYN.out;have:=HRN.out;omega),h1.c6⟩
 rcases hor with ⟨rfl,hJ1,-⟩|⟨rfl,hJx1,-⟩
 ·have HJ1:=hid hJ1;clear hJ1 hKor;have d4:Z1.cell? ⟨Y.heap.size+1,0,none⟩=some (.slice (some ⟨hb,oh,none⟩) m ch):=HFZ.out.c4;gi_wp2
  cases m with
  |zero=>
   have r6:=(HSet.out true).2.2;have HFin:=hid (HEt.out _ (HJ.out _ _ _ HJ1.out (HSet.out true).1) (HSet.out true).2.1);go_wp2_with fail
   exact⟨.bool true,by simp[results,Tryz.results109,go_sem,r6],HFin.out⟩
  |succ m=>
   have q0:(((m+1:Nat):Int) == 0)=false:=by simp;omega
   have hpno:p.length < no:=by have:=HPM.out;omega
   obtain⟨av,cv,euh⟩:=xG (HDZ.out.hq.each p.length (by rw[HM.out.hl];exact hpno));have cuh:=HVs.cell HM.out HDZ.out hpno HHV.out.1;have eoh:oh=p.length:=HHV.out.2.1 (by omega);obtain⟨nv,hnv⟩:∃nv,nv=(x.hav.getD p.length []).length:=⟨_,rfl⟩;rw[<-hnv]at euh;rw[euh]at cuh;rw[<-eoh]at cuh;have HEO:=hid eoh;have HUH:=hid euh;clear eoh euh hnv;have HSS:Hid (∀W,Bl Z1 W->W.cell? ⟨Y.heap.size,0,none⟩=some (.slice (some ⟨gp,0,none⟩) np cp)/\W.cell? ⟨Y.heap.size,1,none⟩=some (.slice ab x.nT cb)/\W.cell? ⟨Y.heap.size+1,0,none⟩=some (.slice (some ⟨hb,oh,none⟩) (m+1) ch)/\W.cell? ⟨hb,oh,none⟩=some (.slice av nv cv)/\Bl Z1 W):=hid fun W hW=>⟨(HFZ.out.b3.below hW).c0,(HFZ.out.b3.below hW).c1,zy hW d4,zy hW cuh,hW⟩;have i1:(0:Int) < (((m+1:Nat)):Int):=by omega
   go_upto_region 5 with fail
   clear d4 cuh
   go_region_held_law (fun W=>W.cell? ⟨Y.heap.size,0,none⟩=some (.slice (some ⟨gp,0,none⟩) np cp)/\W.cell? ⟨Y.heap.size,1,none⟩=some (.slice ab x.nT cb)/\W.cell? ⟨Y.heap.size+1,0,none⟩=some (.slice (some ⟨hb,oh,none⟩) (m+1) ch)/\W.cell? ⟨hb,oh,none⟩=some (.slice av nv cv)/\Bl Z1 W)
    (first|(with_reducible exact HSS.out _ (bI _ _).drew)|(with_reducible exact HSS.out _ hB2)|(with_reducible exact HSS.out _ (xQ (qE (qE (bI _ _) _) _)))|fail)
    (first
     |(go_simp;go_at_call 132;refine(Vu _ _ _ _ _ _ _ _ _ _).mono ?_;rintro e w2 ⟨rfl,hw2⟩;have hB2:Bl Z1 w2:=(by rw[hw2];exact qE (qE (bI _ _).drew _) _))
     |fail)
   go_wp2_with fail
   obtain⟨Wl,hWl⟩:∃Wl,Wl=((Z1.alloc (.cells #[(.slice (some ⟨gp,0,none⟩) np cp),(.slice ab x.nT cb)] 134)).alloc (.cells #[.slice av nv cv] 24)).drew:=⟨_,rfl⟩;rw[<-hWl];have hBl:Bl Z1 Wl:=by rw[hWl];exact xQ (qE (qE (bI _ _) _) _)
   have hsl:Wl.heap.size=Z1.heap.size+2:=by rw[hWl];show((Z1.alloc _).alloc _).heap.size=_;simp
   have hbB:BrX Wl Z1.heap.size (.slice (some ⟨gp,0,none⟩) np cp) (.slice ab x.nT cb):=by rw[hWl];exact(Below.heap_alloc _ _ _ (by simp)).trans (World.alloc_heap_new Z1 _)
   have hbH:Wl.heap[Z1.heap.size+1]?=some (.cells #[.slice av nv cv] 24 (0,0)):=by
    rw[hWl];have:=World.alloc_heap_new (Z1.alloc (.cells #[(.slice (some ⟨gp,0,none⟩) np cp),(.slice ab x.nT cb)] 134)) (.cells #[.slice av nv cv] 24);rw[World.size_alloc]at this;exact this
   have hZn:x.n0<=Z1.heap.size:=by have:=HSZ.out;have:=HYN.out;omega
   have hkl:KT x.n0 Z1 Wl:=KT.of_below hBl hZn;have hdl:=HDZ.out.kt hkl HX.out;have hbl:=(HBZ.out.below hBl);have hnr:¬RB x Wl (Z1.heap.size+1):=qEB HDZ.out.ty (hkl.bel.block _ HRN.out) (Nat.le_succ _)
   have hwi:WI x l (fun W=>J (ps++[p]++([]:List Int).flatMap fun y=>qp nxt m (p++[y])) W) Y (.slice (some ⟨gp,0,none⟩) np cp) (.slice ab x.nT cb) (.slice (some ⟨hb,oh,none⟩) (m+1) ch) Wl:=by
    refine⟨?_,HKZ.out.kt (KT.of_below hBl (by have:=HSZ.out;omega):KT Y.heap.size Z1 Wl) (by have:=HYN.out;have:=HRN.out;omega),HFZ.out.bel hBl (by have:=HSZ.out;omega),hdl⟩;have:=HJ.out _ _ _ HJ1.out hkl;simpa using this
   have hg:=HG.out Wl Z1.heap.size (Z1.heap.size+1) (.slice (some ⟨gp,0,none⟩) np cp) (.slice ab x.nT cb) p hpno HD.out hdl (hbl.base HXN.out) hbB hZn (by rw[HUH.out];exact hbH) (by omega) hnr;have hyl:Y.heap.size+3 < Wl.heap.size:=by have:=HSZ.out;omega
   have hnl:x.n0<=Wl.heap.size:=by omega
   have hrl:x.r < Wl.heap.size:=by have:=HRN.out;omega
   clear hWl;have HSL:=hid hsl;clear hsl;obtain⟨II,hII⟩:∃II:List Int->World->Prop,II=fun pre W=>WI x l (fun W=>J (ps++[p]++pre.flatMap fun y=>qp nxt m (p++[y])) W) Y (.slice (some ⟨gp,0,none⟩) np cp) (.slice ab x.nT cb) (.slice (some ⟨hb,oh,none⟩) (m+1) ch) W:=⟨_,rfl⟩;obtain⟨IX,hIX⟩:∃IX:Code->World->Prop,IX=fun c W=>c=.ret/\Jx W/\KpS x (fun k=>k=l) Y W/\W.cell? ⟨Y.heap.size+1+1+1,0,none⟩=some (.bool false):=⟨_,rfl⟩;have HII:=hid hII;have HIX:=hid hIX;refine(wpIn_wide (n:=0)).1 ?_
   refine ke (α:=Int) (β:=Value×Value) (gf:=159) (lb:=#[.pointer (some ⟨Z1.heap.size,0,none⟩),.pointer (some ⟨Z1.heap.size+1,0,none⟩)]) rfl (enters_of Tryz.func159 (by kernel_rfl) rfl) hg (fun _=>rfl)
    (fun h1 h2=>KpS.trans h1 h2) (fun l2 W o o' h1 h2 h3=>KpS.put (Or.inr rfl) h2 h3 (by omega)) (fun _ _ _=>trivial)
    II IX
    (fun s A C hA hk=>by rw[hII]at hA ⊢;exact WI.kt hA HX.out HYN.out (HJ.out _) hk hyl)
    (fun c A C hA hk=>by rw[hIX]at hA ⊢;exact⟨hA.1,HJx.out _ _ hA.2.1 (hk.mono hnl),hA.2.2.1.kt (hk.mono (by omega)) (by have:=HYN.out;have:=HRN.out;omega),(hk.bel.cell (p:=⟨Y.heap.size+1+1+1,0,none⟩) hyl).trans hA.2.2.2⟩)
    (by rw[hII];exact hwi)
    (fun l2 pre y b a' W=>∃bq,WA x l (fun W=>J (ps++[p]++pre.flatMap fun y=>qp nxt m (p++[y])) W) Y (.slice (some ⟨gp,0,none⟩) np cp) (.slice ab x.nT cb) (.slice (some ⟨hb,oh,none⟩) (m+1) ch) p y b.1 b.2 bq W/\pre++[y] <+:nxt p/\(∃g c,b.1=.slice (some ⟨g,0,none⟩) (p.length+1) c)/\(∃g c,b.2=.slice (some ⟨g,0,none⟩) x.nT c)/\a'={ tmps:=#[.agg #[(.slice (some ⟨gp,0,none⟩) np cp),(.slice ab x.nT cb)],(.slice (some ⟨hb,oh,none⟩) (m+1) ch),.func (.yield l) #[] #[],.pointer (some ⟨Y.heap.size,0,none⟩),.pointer (some ⟨Y.heap.size+1,0,none⟩),.pointer (some ⟨Y.heap.size+1+1,0,none⟩),.pointer (some ⟨Y.heap.size+1+1+1,0,none⟩),.pointer (some ⟨bq,0,none⟩),.func (.yield l) #[] #[],.pointer (some ⟨Y.heap.size,0,none⟩),(.slice (some ⟨gp,0,none⟩) np cp),.bool true,.bool false,(.slice (some ⟨hb,oh,none⟩) (m+1) ch),.int .i64 ((m:Int)+1),.bool false,.agg #[(.slice (some ⟨gp,0,none⟩) np cp),(.slice ab x.nT cb)],(.slice (some ⟨hb,oh,none⟩) (m+1) ch),.pointer (some ⟨hb,oh,none⟩),.slice av nv cv,.func (.func 159) #[] #[.pointer (some ⟨Z1.heap.size,0,none⟩),.pointer (some ⟨Z1.heap.size+1,0,none⟩)],.agg #[b.1,b.2],undef,undef,undef,undef,undef,undef],defers:=[] })
    (fun l2 pre y b a' W o o' ⟨bq,h1,h2⟩ hl2 h3 h4=>⟨bq,h1.kt HX.out HYN.out (KT.put (B:=Wl.heap.size) o' hl2 h3 h4) hyl,h2⟩)
    ?assign ?body ?done ?stop
   case assign=>
    rintro l2 pre y ⟨b1,b2⟩ A C K hl2 hI hk ⟨hbr,hyn,⟨g1,c1,e1⟩,⟨g2,c2,e2⟩⟩ ⟨rr,hrr⟩ hK;dsimp only at e1 e2 hbr;subst e1 e2;rw[HII.out]at hI;have hIC:=WI.kt hI HX.out HYN.out (HJ.out _) hk hyl;have hlC:Wl.heap.size<=C.heap.size:=by have:=qR hrr;omega
    have hbC:Bl C (C.alloc (.cells #[.slice (some ⟨g1,0,none⟩) (p.length+1) c1,.slice (some ⟨g2,0,none⟩) x.nT c2] 134)):=(bI _ _).alloc (nR _) _;have hkC:=KT.of_below hbC hlC;have hIC2:=hIC.kt HX.out HYN.out (HJ.out _) hkC hyl;have hnA:x.n0<=A.heap.size:=by have:=hI.fr.lt;have:=HYN.out;omega
    dsimp only[Ku];gi_wp2
    exact hK _ _ ((KeepsOthers.alloc _ _).from _) (KpS.of_below hbC (by omega)) ⟨C.heap.size,⟨hIC2.kp,hIC2.fr,hIC2.dat,BrX.new C _ _,A,hI.j,(hk.mono hnl).trans (hkC.mono hnl),hnA,hbr.below hbC⟩,hyn,⟨g1,c1,rfl⟩,⟨g2,c2,rfl⟩,rfl⟩
   case body=>
    rintro l2 pre y ⟨b1,b2⟩ a' W hl2 ⟨rr,hrr⟩ ⟨bq,hWA,hyn,⟨g1,c1,e1⟩,⟨g2,c2,e2⟩,rfl⟩;dsimp only at e1 e2 hWA;subst e1 e2;have c7:=hWA.bx.c0;have c7':=hWA.bx.c1;have c4:W.cell? ⟨Y.heap.size+1,0,none⟩=some (.slice (some ⟨hb,oh,none⟩) (m+1) ch):=hWA.fr.c4;have c5:W.cell? ⟨Y.heap.size+1+1,0,none⟩=some (.func (.yield l) #[] #[]):=hWA.fr.c5;have c6:W.cell? ⟨Y.heap.size+1+1+1,0,none⟩=some (.bool false):=hWA.fr.c6;have f6:W.frozen? ⟨Y.heap.size+1+1+1,0,none⟩=false:=hWA.fr.f6;have HWA:=hid hWA;have hmix:Tryz.prog.follows .mixedOrders=true:=by kernel_rfl
    have j1:(1:Int)<=(((m+1:Nat)):Int):=by omega
    have hmc:=HHV.out.2.2;have j2:(1:Int)<=(ch:Int):=by omega
    have j3:(((m+1:Nat)):Int)<=(ch:Int):=by omega
    have hWlt:=qR hrr;have hrW:x.r < W.heap.size:=by omega
    have hWd:Bl W W.drew:=(bI _ _).drew;have hkd:KT x.n0 W W.drew:=KT.of_below hWd (by omega)
    have KW:Hid (∀o c,(0 < m->o=oh+1)->m<=c->Cl 109 #[.agg #[.slice (some ⟨g1,0,none⟩) (p.length+1) c1,.slice (some ⟨g2,0,none⟩) x.nT c2],.slice (some ⟨hb,o,none⟩) m c,.func (.yield l) #[] #[]] W.drew fun e Z2=>∃r:Bool,e=.returned (.bool r)/\Hid ((r=true/\J (ps++[p]++pre.flatMap (fun y=>qp nxt m (p++[y]))++qp nxt m (p++[y])) Z2/\KpS x (fun k=>k=l) W.drew Z2)∨(r=false/\Jx Z2/\KpS x (fun k=>k=l) W.drew Z2))):=hid fun o c h1 h2=>by
     obtain⟨A,hA1,hA2,hA3,hA4⟩:=hWA.src;have hpl:(p++[y]).length=p.length+1:=by simp
     have hpm:=HPM.out
     refine Calls.mono (R:=WkE x l J Jx (ps++[p]++pre.flatMap (fun y=>qp nxt m (p++[y]))++qp nxt m (p++[y])) W.drew) ?_ (fun e Z2 h=>by
      rcases h with ⟨rfl,h4,h5⟩|⟨rfl,h4,h5⟩
      ·exact⟨true,rfl,hid (Or.inl ⟨rfl,h4,h5⟩)⟩
      ·exact⟨false,rfl,hid (Or.inr ⟨rfl,h4,h5⟩)⟩)
     refine HIH.out m rfl (p++[y]) _ A W.drew _ _ _ (by rw[hpl];omega) (qC8 HTOT.out hyn) (HSN.out p hpno HD.out y (hyn.subset (by simp))) hA3 hA1 (hA2.trans hkd) (hWA.dat.kt hkd HX.out) (hA4.below hWd) ⟨g1,c1,by rw[hpl]⟩ ⟨hb,o,c,HHV.out.1,by rw[hpl,show no - (p.length+1)=m by omega],fun h3=>?_,by rw[hpl];omega⟩;rw[hpl]at h3 ⊢;rw[h1 (by omega),HEO.out]
    have HDo:Hid (∀Z2,J (ps++[p]++pre.flatMap (fun y=>qp nxt m (p++[y]))++qp nxt m (p++[y])) Z2->KpS x (fun k=>k=l) W.drew Z2->KeepsFrom Wl.heap.size W Z2/\KpB x l l2 W Z2/\II (pre++[y]) Z2):=hid fun Z2 h1 h2=>by
     rw[HII.out];have h3:KpS x (fun k=>k=l) W Z2:=(KpS.of_below hWd hrW).trans h2;refine⟨h3.keeps HX.out hWA.dat.ty hnl (by have:=HL.out;omega),h3.sub fun k hk=>Or.inl hk,?_,hWA.kp.trans h3,hWA.fr.kp h3 HX.out hWA.dat.ty HYN.out,hWA.dat.kp h3 HX.out⟩;show J (ps++[p]++(pre++[y]).flatMap fun y=>qp nxt m (p++[y])) Z2;rw[List.flatMap_append,List.flatMap_singleton,<-List.append_assoc];exact h1
    have HStp:Hid (∀Z2,Jx Z2->KpS x (fun k=>k=l) W.drew Z2->Z2.cell? ⟨Y.heap.size+1+1+1,0,none⟩=some (.bool false)/\Z2.frozen? ⟨Y.heap.size+1+1+1,0,none⟩=false/\KeepsFrom Wl.heap.size W (Z2.setCell ⟨Y.heap.size+1+1+1,0,none⟩ (.bool false))/\IX .ret (Z2.setCell ⟨Y.heap.size+1+1+1,0,none⟩ (.bool false))):=hid fun Z2 h1 h2=>by
     have h3:KpS x (fun k=>k=l) W Z2:=(KpS.of_below hWd hrW).trans h2;have h4:=hWA.fr.kp h3 HX.out hWA.dat.ty HYN.out;obtain⟨h5,h6⟩:=h4.set false;have h7:=(hWA.kp.trans h3).kt (h6.mono (by omega)) (by have:=HYN.out;have:=HRN.out;omega);rw[HIX.out];refine⟨h4.c6,h4.f6,?_,rfl,HJx.out _ _ h1 (h6.mono (by have:=HYN.out;omega)),h7,h5.c6⟩;have h8:=h3.keeps HX.out hWA.dat.ty hnl (by have:=HL.out;omega);exact⟨bK h8.size h6.bel.size,fun k o hk h0 ho=>(bD _ _ _ _ (by show k≠Y.heap.size+3;omega)).trans (h8.same k o hk h0 ho)⟩
    clear hWA hWd hkd hII hIX hwi;by_cases hc1:ch=1
    ·have hm0:m=0:=by omega
     have HM0:=hid hm0;clear hm0;gi_wp2
     gi_region_with_o (refine⟨trivial,rfl,?_⟩;refine(CallsIn.inRound l2 (callsIn_wide.2 (KW.out oh 0 (fun h=>by have:=HM0.out;omega) (by have:=HM0.out;omega)))).mono ?_;rintro e Z2 ⟨rb,rfl,hZ2⟩)
     all_goals(first
      |(rcases hZ2.out with ⟨rfl,hJ2,hK2⟩|⟨rfl,hJx2,hK2⟩
        ·obtain⟨p1,p2,p3⟩:=HDo.out Z2 hJ2 hK2
         gi_wp2
         exact⟨p1,p2,p3⟩
        ·obtain⟨s1,s2,p1,p2⟩:=HStp.out Z2 hJx2 hK2
         gi_wp2
         exact⟨p1,trivial,p2⟩))
    ·have hmcc:m<=ch - 1:=by omega
     have HMC:=hid hmcc;clear hmcc;gi_wp2
     gi_region_with_o (refine⟨trivial,rfl,?_⟩;refine(CallsIn.inRound l2 (callsIn_wide.2 (KW.out (oh+1) (ch - 1) (fun _=>rfl) HMC.out))).mono ?_;rintro e Z2 ⟨rb,rfl,hZ2⟩)
     all_goals(first
      |(rcases hZ2.out with ⟨rfl,hJ2,hK2⟩|⟨rfl,hJx2,hK2⟩
        ·obtain⟨p1,p2,p3⟩:=HDo.out Z2 hJ2 hK2
         gi_wp2
         exact⟨p1,p2,p3⟩
        ·obtain⟨s1,s2,p1,p2⟩:=HStp.out Z2 hJx2 hK2
         gi_wp2
         exact⟨p1,trivial,p2⟩))
   case done=>
    intro D W hD hI hK;rw[hII]at hI;have hDy:D≠Y.heap.size+3:=by omega
    obtain⟨hs1,hs2⟩:=hI.fr.set true;have hK':(W.setCell ⟨Y.heap.size+1+1+1,0,none⟩ (.bool true)).heap[D]?=some (.deferred (some [])):=(bD _ _ _ _ (by exact hDy)).trans hK;have hp:=KT.put (B:=Y.heap.size) (.deferred none) (by omega) hK' rfl;have hkk:KT Y.heap.size W ((W.setCell ⟨Y.heap.size+1+1+1,0,none⟩ (.bool true)).putObj D (.deferred none)):=(hs2.mono (by omega)).trans hp;have r6:((W.setCell ⟨Y.heap.size+1+1+1,0,none⟩ (.bool true)).putObj D (.deferred none)).cell? ⟨Y.heap.size+1+1+1,0,none⟩=some (.bool true):=(bE (w:=W.setCell ⟨Y.heap.size+1+1+1,0,none⟩ (.bool true)) (a:=⟨Y.heap.size+1+1+1,0,none⟩) (World.putObj_heap_other (by show Y.heap.size+1+1+1≠D;omega))).trans hs1.c6
    have HFin:Hid (E (.returned (.bool true)) ((W.setCell ⟨Y.heap.size+1+1+1,0,none⟩ (.bool true)).putObj D (.deferred none))):=hid (HEt.out _ (by
     have h9:=HJ.out _ _ _ hI.j (hkk.mono HYN.out);have e9:ps++qp nxt (m+1) p=ps++[p]++(nxt p).flatMap fun y=>qp nxt m (p++[y]):=by rw[List.append_assoc];rfl
     rw[e9];exact h9) (hI.kp.kt hkk (by have:=HYN.out;have:=HRN.out;omega)))
    have w6:W.cell? ⟨Y.heap.size+1+1+1,0,none⟩=some (.bool false):=hI.fr.c6;have wf:W.frozen? ⟨Y.heap.size+1+1+1,0,none⟩=false:=hI.fr.f6;simp only[Exit.inBlock,Exit.then];clear hI hII hIX hwi hs1 hs2;go_wp2_with fail
    exact⟨by simp,Or.inl ⟨D,_,rfl,run_takeDeferred hK',.bool true,by simp[results,Tryz.results109,go_sem,r6],HFin.out⟩⟩
   case stop=>
    intro D c W hD hI hK;rw[hIX]at hI;obtain⟨rfl,h1,h2,h3⟩:=hI;have hp:=KT.put (B:=Y.heap.size) (.deferred none) (by omega) hK rfl;have r6:(W.putObj D (.deferred none)).cell? ⟨Y.heap.size+1+1+1,0,none⟩=some (.bool false):=(bE (w:=W) (a:=⟨Y.heap.size+1+1+1,0,none⟩) (World.putObj_heap_other (by show Y.heap.size+1+1+1≠D;omega))).trans h3;have HFin:=hid (HEf.out _ (HJx.out _ _ h1 (hp.mono HYN.out)) (h2.kt hp (by have:=HYN.out;have:=HRN.out;omega)));clear h1 h2 h3 hII hIX hwi;gi_wp2
    exact⟨by simp,Or.inl ⟨D,_,rfl,run_takeDeferred hK,.bool false,by simp[results,Tryz.results109,go_sem,r6],HFin.out⟩⟩
 ·have r6:=(HSet.out false).2.2;have HFin:=hid (HEf.out _ (HJx.out _ _ hJx1 (HSet.out false).1) (HSet.out false).2.1);clear hKor;gi_wp2
  go_wp2_with fail
  exact⟨.bool false,by simp[results,Tryz.results109,go_sem,r6],HFin.out⟩
theorem Zi(x:JX)(hx:x.Ok)(nxt:List Int->List Int)(no:Nat)(hm:JMx x nxt no)(hsn:∀p,p.length < no->x.Hd p->∀y∈nxt p,x.Hd (p++[y]))(l:Nat)(hl:l < x.n0)(hG:LgG x nxt no l)(tot:List (List Int))(J:List (List Int)->World->Prop)(Jx:World->Prop)
 (hJ:∀s X Y,J s X->KT x.n0 X Y->J s Y) (hJx:∀X Y,Jx X->KT x.n0 X Y->Jx Y)
 (hY:∀ps p vp X Y,J ps X->KT x.n0 X Y->Y.ownsRow X.heap.size 3 1 vp p.length (p.map (Value.int .i64))->p.length<=no->(∃g c,vp=.slice (some ⟨g,0,none⟩) p.length c)->ps++[p] <+:tot->YieldAt Fence.wide 0 Tryz.prog l #[vp] Y fun e Z=>(e=.returned (.bool true)/\J (ps++[p]) Z/\KpS x (fun k=>k=l) Y Z)∨(e=.returned (.bool false)/\Jx Z/\KpS x (fun k=>k=l) Y Z)):
 ∀m,WkC x nxt no l tot J Jx m
 |0=>YD x hx nxt no hm hsn l hl hG tot J Jx hJ hJx hY 0 fun m' h=>by omega
 |m+1=>YD x hx nxt no hm hsn l hl hG tot J Jx hJ hJx hY (m+1) fun m' h=>by
  obtain rfl:m'=m:=by omega
  exact Zi x hx nxt no hm hsn l hl hG tot J Jx hJ hJx hY m'
end Go.Proofs.YtjbpgdpciinlcaaGreat
