import Derived.Deep.Cut
import Derived.Lib.Split
import Derived.Shelf.SlLaysF0
import Derived.Shelf.SlSortCmp.KitK
import Derived.Shelf.SlSortCmp.NoneTotal
import Derived.Shelf.SlSortCmp.WholeK
import Derived.Test.YtnpgdnaeghilhaaGreatProg
import Derived.Test.YtnpgdnaeghilhaaGreatEq05
set_option maxHeartbeats 40000000
set_option maxRecDepth 1000000
namespace Go.Proofs
open Go.Shelf Tryz YtnpgdnaeghilhaaGreat
def Tryz.sortW_ren:Ren:=⟨λ|6=>129|15=>163|14=>162|28=>205|29=>206|20=>197|21=>198|22=>199|23=>200|24=>201|25=>202|26=>203|27=>204|46=>232|47=>233|48=>234|49=>235|50=>236|57=>249|n=>n,λ|22=>135|24=>140|25=>189|3=>3|39=>224|0=>0|53=>272|55=>275|4=>4|46=>281|45=>280|50=>217|5=>5|9=>9|66=>300|70=>304|76=>313|77=>314|n=>n,λ|n=>n⟩
theorem Tryz.sortW:SlLaysF0.n6 prog sortW_ren:=⟨Kl,⟨f129.1,Dd,tS func129⟩,⟨f162.1,Dd,tS func162⟩,tS func163,⟨f197.1,Dd,tS func197⟩,⟨f198.1,Dd,tS func198⟩,⟨f199.1,Dd,tS func199⟩,⟨f200.1,Dd,tS func200⟩,⟨f201.1,Dd,tS func201⟩,⟨f202.1,Dd,tS func202⟩,⟨f203.1,Dd,tS func203⟩,⟨f204.1,Dd,tS func204⟩,tS func205,tS func206,⟨f232.1,Dd,tS func232⟩,tS func233,tS func234,⟨f235.1,Dd,tS func235⟩,⟨f236.1,Dd,tS func236⟩,⟨f249.1,Dd,tS func249⟩,underlying0,isAgg0,sizeOf0,zeroValue0,underlying3,isAgg3,sizeOf3,zeroValue3,underlying4,isAgg4,sizeOf4,zeroValue4,underlying5,isAgg5,sizeOf5,zeroValue5,underlying9,isAgg9,sizeOf9,zeroValue9,underlying135,isAgg135,sizeOf135,zeroValue135,underlying189,isAgg189,sizeOf189,zeroValue189,underlying224,isAgg224,sizeOf224,zeroValue224,underlying280,isAgg280,sizeOf280,zeroValue280,underlying281,isAgg281,sizeOf281,zeroValue281,underlying217,isAgg217,sizeOf217,zeroValue217,underlying272,isAgg272,sizeOf272,zeroValue272,underlying275,isAgg275,sizeOf275,zeroValue275,underlying300,isAgg300,sizeOf300,zeroValue300,underlying304,isAgg304,sizeOf304,zeroValue304,underlying313,isAgg313,sizeOf313,zeroValue313,underlying314,isAgg314,sizeOf314,zeroValue314⟩
end Go.Proofs
namespace Go.Proofs.YtnpgdnaeghilhaaGreat
open Go.Proofs.Tryz Go.RowKit Go.Shelf Go.Lib Go.Sort
variable {xs ys zs:LV}{B I n n1 n2 p:Nat}{v v' v1 v2:Value}{W W' w:World}
abbrev WtV:=Value×LI×Int
def wc(e:WtV):LV:=[e.1,ai e.2.2]
structure WQ(W:World)(B:Nat)(v:Value)(es:List WtV):Prop where
 own:W.ownsRow B 140 2 v es.length (es.flatMap wc)
 each:∀e∈es,W.ownsRow B 3 1 e.1 e.2.1.length (e.2.1.map ai)
 ap:es.Pairwise λp q=>∀g,p.1.ownBlock=some g->q.1.ownBlock≠some g
def WtP(w:World)(B:Nat):Type:={ e:WtV // w.ownsRow B 3 1 e.1 e.2.1.length (e.2.1.map ai)/\e.2.1.length<=1099511627776 }
def WtP.val(p:WtP w B):WtV:=p.1
def WtP.cells(p:WtP w B):LV:=wc p.1
def WtP.row(p:WtP w B):LI:=p.1.2.1
theorem qC9{w B}:∀es,(∀e∈es,w.ownsRow B 3 1 e.1 e.2.1.length (e.2.1.map ai)/\e.2.1.length<=1099511627776)->∃ps:List (WtP w B),ps.map WtP.val=es
 |[],_=>⟨[],rfl⟩
 |e::r,h=>by
  have⟨ps,I⟩:=qC9 r (λx K=>h x (mC _ K));exact⟨⟨e,h e cY⟩::ps,congrArg (e::·) I⟩
theorem qGu(h:w.ownsRow B 3 1 v n xs):v.oneCell'=true:=by
 rcases h.2 with ⟨rfl,I⟩|⟨g,cap,cur,rfl,_⟩ <;> rfl
theorem qBg{α:Type}(c2:α->LV)(I:∀x,(c2 x).length=2)(ss:List α):∀t,(ss.flatMap c2)[t]?=(ss[t / 2]?).bind λx=>(c2 x)[t % 2]?:=by
 induction ss with
 |nil=>intro t;simp
 |cons x r ih=>
  intro t;rw[dS];by_cases h:t<2;rw[aL (by rw[I];omega),Nat.div_eq_of_lt h,Nat.mod_eq_of_lt h];rfl;obtain⟨s,rfl⟩:∃s,t=s+2:=⟨t-2,Oo⟩;rw[bQ (by rw[I];omega)];have e:s+2-(c2 x).length=s:=by rw[I];omega
  rw[e,ih s,Nat.add_mod_right,Nat.add_div_right _ Dd];rfl
theorem qDA{α}[Inhabited α](c2:α->LV)(I:∀x,(c2 x).length=2)d:(flatK c2 2 d).toList=d.toList.flatMap c2:=by
 refine List.ext_getElem? λt=>?_;rw[qBg c2 I,dY];by_cases h:t<d.size*2
 .have K:t / 2<d.size:=Oo;have M:t % 2<(c2 d[t / 2]).length:=by rw[I];omega
  have e:=get_flatK c2 2 d t h;rw[getElem!_pos _ t (by simpa using h),getElem!_pos d _ K,getElem!_pos (c2 d[t / 2]) _ M]at e;rw[dC (by simpa using h),e,dY,dC K,Option.bind_some,gE M]
 rw[dO Sy,dY,dO Oo];rfl
section
variable {α:Type} [Inhabited α] {c2:α->LV}
theorem qDB{blk off m K os b}(hb:b<w.1.size)(I:b≠blk):(sortWorldK c2 2 w blk off m K os).1[b]?=w.1[b]?:=by
 show(((w.1.modify blk _)++os)[b]?)=_;rw[Array.getElem?_append_left (by simpa using hb),Array.getElem?_modify,fF (Ne.symm I)]
theorem qJa{blk off m K os}{cur:AV}{e fr}(h:w.1[blk]?=some (.cells cur e fr)):(sortWorldK c2 2 w blk off m K os).1[blk]?=some (.cells (Sort.putCells id off (flatK c2 2 K) cur) e fr):=by
 have hb:blk<w.1.size:=by
  rcases dL blk w.1.size with I|I;exact I;rw[dO I]at h;cases h
 show(((w.1.modify blk _)++os)[blk]?)=_;rw[Array.getElem?_append_left (by simpa using hb),Array.getElem?_modify,fE rfl,h];rfl
theorem qIY{blk off m I os}:w.1.size<=(sortWorldK c2 2 w blk off m I os).1.size:=by
 show w.1.size<=((w.1.modify blk _)++os).size;simp
end
theorem qEB{vx vy V ly kx ky}(hx:IS W vx V)(hy:IS W vy ly)(a3:V.length<=1099511627776)(a4:ly.length<=1099511627776):
 aF 130 #[.agg #[vx,ai kx],.agg #[vy,ai ky]] W (ai (cmpL V ly)) λw'=>∃q M,w'=grow (W.drewN q) M:=by
 obtain⟨O,I⟩:=Ex ((W.alloc (.cells #[vx,ai kx] 140)).alloc (.cells #[vy,ai ky] 140));have hb:Bl W O:=by rw[I];exact(aK).alloc Ss _
 have K:=ay (yy O V (hx.below hb) (hy.below hb) a3 a4);have c0:O.cell? (az W.1.size 0)=some vx:=by
  rw[I];refine xE (aK) ?_;rw[bE _ _ _ _ rfl];rfl
 have c1:O.cell? (az (W.1.size+1) 0)=some vy:=by rw[I,bE _ _ _ _ Ss];rfl
 have HE:Hh (∃q M,O=grow (W.drewN q) M):=ay ⟨0,_,by rw[I,alloc_eq_grow,alloc_eq_grow,grow_grow];rfl⟩;obtain⟨a1,k1,rfl,-⟩:=hx;obtain⟨a2,k2,rfl,-⟩:=hy;generalize cmpL V ly=r,V.length=n1,ly.length=n2 at *;go_enter func130,ntmps130;go_upto_region 1 with fail;rw[<-I];clear I;go_wp2_with fail;apply K.o.mn;intro w' rfl;go_wp2;go_ret;exact⟨rfl,HE⟩
theorem Tryz.aggW w:(isAgg 140).run Tryz.prog w=.ok true w:=isAgg140 w
theorem Tryz.sizeW w:(Go.sizeOf 140).run Tryz.prog w=.ok 2 w:=sizeOf140 w
theorem qJb(es:List WtV):(es.flatMap wc).length=es.length*2:=by
 induction es with
 |nil=>rfl
 |cons x r ih=>rw[dS,lA,ih,cQ];simp only[wc,cQ,List.length_nil];omega
theorem qCQ w B g{cap es}(h:WQ w B (sZ g 0 es.length cap) es)(hM:∀e∈es,e.2.1.length<=1099511627776)(hn:es.length<=1000000):
 aF 129 #[sZ g 0 es.length cap,.func (.func 130) #[] #[]] w (.tuple #[]) λw'=>∃a3,a3.Perm es/\(a3.Pairwise λa b=>¬cmpL b.2.1 a.2.1<0)/\WQ w' B (sZ g 0 es.length cap) a3/\Below B w w':=by
 obtain⟨hB,cur,I,a7,a8,b1,b7⟩:B<=g/\∃cur,w.1[g]?=some (.cells cur 140 (0,0))/\es.length<=cap/\cap<=maxLen/\cur.size=cap*2/\cur.toList.take (es.length*2)=es.flatMap wc:=by
  rcases h.own.2 with ⟨e,-⟩|⟨g',d1,cur,e,hb',hc,h1,h2,h3,h4⟩;cases e
  simp only[vI,oI,Addr.mk.injEq,true_and,and_true]at e;obtain⟨rfl,rfl⟩:=e;exact⟨hb',cur,hc,h1,h2,h3,h4⟩
 have b8:g<w.1.size:=by
  rcases dL g w.1.size with h1|h1;exact h1;rw[dO h1]at I;cases I
 obtain⟨ps,a4⟩:=qC9 _ (λe he=>⟨h.each e he,hM e he⟩);have hlen:ps.length=es.length:=by rw[<-a4,lM]
 have inh:Inhabited (WtP w B):=⟨⟨(sn,[],0),oN _ _ _ _,Ss⟩⟩
 have a5:∀x:WtP w B,(WtP.cells x).length=2:=λ_=>rfl;have c7:(flatK WtP.cells 2 ps.toArray).toList=es.flatMap wc:=by rw[qDA WtP.cells a5];exact (by rw[<-a4,List.flatMap_map];rfl)
 have hH:HoldsK WtP.cells 2 w g 0 ps.toArray:=λj hj=>by
  have c8:j<es.length*2:=by rw[<-hlen];simpa using hj
  have e1:cur[j]?=some (flatK WtP.cells 2 ps.toArray)[j]! :=by
   rw[<-dY,<-cL c8,b7,<-c7,dY,getElem!_pos _ j hj,dC hj]
  refine⟨?_,?_⟩;rw[cU,eI I];exact e1;unfold World.frozen?;rw[I];simp
 have far:∀(m:Nat) (os:Array Obj) (dk:Array (WtP w B)) (p:WtP w B),(sortWorldK WtP.cells 2 w g 0 m dk os).ownsRow B 3 1 p.1.1 p.1.2.1.length (p.1.2.1.map ai):=λm os dk p=>
  qD p.2.1 λq hq=>qDB (p.2.1.lt q hq).2 (by
   rintro rfl;exact own_ne p.2.1 ⟨_,I⟩ Dd hq.symm)
 have hcmp:CmpLays Tryz.prog 130 #[] WtP.cells 2 (λx y=>cmpL (WtP.row x) (WtP.row y)) g 0 ps.toArray.size w:=λm os dk _ x y=>
  qEB (qN (far m _ _ x)) (qN (far m _ _ y)) x.2.2 y.2.2
 have V:=AnyQ.slices_SortFunc Tryz.sortW 2 Tryz.aggW Tryz.sizeW WtP.cells a5 (λx v hv=>by
  simp only[WtP.cells,wc,cH,List.not_mem_nil,or_false]at hv;rcases hv with rfl|rfl;exact qGu x.2.1;rfl) (λx y=>cmpL (WtP.row x) (WtP.row y)) (qIR WtP.row) 130 #[] g 0 cap ps.toArray w (enters_of func130 Kl rfl) hcmp hH b8 Sy
 rw[show ps.toArray.size=es.length by simpa using hlen]at V;apply V.mono;rintro e w' ⟨rfl,K,m,os,⟨p1,-,p3⟩,hs,rfl⟩;have M:K.size=es.length:=by rw[<-hlen];simpa using p1
 have a6:K.toList.Perm ps:=by
  have e1:K.extract 0 es.length=K:=by rw[<-M];exact Array.extract_size ..
  have e2:ps.toArray.extract 0 es.length=ps.toArray:=by rw[<-hlen];exact Array.extract_size ..
  rw[e1,e2]at p3;exact p3
 have O:(K.toList.map WtP.val).Perm es:=by rw[<-a4];exact a6.map _
 have c9:(K.toList.map WtP.val).flatMap wc=K.toList.flatMap WtP.cells:=by rw[List.flatMap_map];rfl
 refine⟨rfl,K.toList.map WtP.val,O,?_,⟨?_,λe he=>?_,?_⟩,?_⟩;refine List.pairwise_map.2 ?_;rw[List.pairwise_iff_getElem];intro i j hi hj d0;simp only[Array.length_toList]at hi hj;have:=hs i j eC d0 Oo;rw[getElem!_pos K i Oo,getElem!_pos K j Oo]at this;rw[Array.getElem_toList,Array.getElem_toList];show ¬cmpL (WtP.row K[j]) (WtP.row K[i])<0;simpa[ltOf]using this
 .rw[O.length_eq];refine⟨by rw[qJb,O.length_eq],Or.inr ⟨g,cap,_,rfl,hB,qJa I,a7,a8,?_,?_⟩⟩;unfold Sort.putCells;simp[b1];rw[c9,<-qDA WtP.cells a5];refine List.ext_getElem? λi=>?_;by_cases hi:i<es.length*2
  .rw[cL hi,dY];unfold Sort.putCells;have a9:i<(flatK WtP.cells 2 K).size:=by simp[M];omega
   rw[Array.getElem?_mapIdx,dC Oo,Option.map_some,fE ⟨eC,Oo⟩,dY,dC a9,Nat.sub_zero,getElem!_pos _ i a9];rfl
  rw[gN (by rw[bZ];omega),gN (by simp[M];omega)]
 obtain⟨p,-,rfl⟩:=cC.1 he;exact far m _ K p;exact(O.symm.pairwise_iff λ{p q} h1 g h2 h3=>h1 g h3 h2).1 h.ap;exact⟨rfl,rfl,rfl,qIY,λb hb=>qDB Oo Oo⟩
structure Pt(w:World)(W:World)(v1 v2:Value)(n1 n2:Nat)(xs ys:LV):Prop where
 bel:Bl w W
 own1:W.ownsRow w.1.size 24 1 v1 n1 xs
 own2:W.ownsRow w.1.size 3 1 v2 n2 ys
theorem Pt.drew(h:Pt w W v1 v2 n1 n2 xs ys):Pt w W.drew v1 v2 n1 n2 xs ys:=⟨h.bel.drew,h.own1,h.own2⟩
theorem JB{M O}(h1:W.ownsRow B M 1 v1 n1 xs)(h2:W.ownsRow B O 1 v2 n2 ys)(K:M≠O):v1.ownBlock=none\/v1.ownBlock≠v2.ownBlock:=by
 rcases h1.2 with ⟨rfl,-⟩|⟨g,cap,cur,rfl,-,hg,-⟩;exact Or.inl rfl;refine Or.inr λe=>?_;rcases h2.2 with ⟨rfl,-⟩|⟨g',V,a3,rfl,-,I,-⟩;cases e
 simp only[Value.ownBlock,oI]at e;subst e;rw[hg]at I;simp only[oI,Obj.cells.injEq]at I;exact K I.2.1
theorem Pt.one(h:Pt w W v1 v2 n1 n2 xs ys)(ho:W'.ownsRow w.1.size 24 1 v' I zs)(K:W.grownBy W' v1.ownBlock):Pt w W' v' v2 I n2 zs ys:=
 ⟨h.bel.grown K h.bel.size (λk e=>(h.own1.lt k e).1),ho,h.own2.kept K (JB h.own2 h.own1 Dd)⟩
theorem Pt.two(h:Pt w W v1 v2 n1 n2 xs ys)(ho:W'.ownsRow w.1.size 3 1 v' I zs)(K:W.grownBy W' v2.ownBlock):Pt w W' v1 v' n1 I xs zs:=
 ⟨h.bel.grown K h.bel.size (λk e=>(h.own2.lt k e).1),h.own1.kept K (JB h.own1 h.own2 Dd),ho⟩
theorem Ud w B v{es}(h:WQ w B v es)(M:∀e∈es,e.2.1.length<=1099511627776)(O:es.length<=1000000):
 aF 129 #[v,.func (.func 130) #[] #[]] w (.tuple #[]) λw'=>∃I,I.Perm es/\(I.Pairwise λa b=>¬cmpL b.2.1 a.2.1<0)/\WQ w' B v I/\Below B w w':=by
 rcases h.own.2 with ⟨rfl,V⟩|⟨g,cap,cur,rfl,hr⟩;obtain rfl:es=[]:=List.eq_nil_of_length_eq_zero V;have K:=AnyF.slices_SortFunc_none Tryz.sortW none 0 (.func (.func 130) #[] #[]) w;change Cl 129 _ _ _ at K;apply K.mn;intro w' rfl;exact⟨rfl,[],List.Perm.refl _,List.Pairwise.nil,h,eB⟩;exact qCQ w B g h M O
theorem Pt.al(h:Pt w W v1 v2 n1 n2 xs ys)o:Pt w (W.alloc o) v1 v2 n1 n2 xs ys:=
 ⟨h.bel.alloc h.bel.size _,h.own1.alloc _,h.own2.alloc _⟩
def wus(es:List WtV):LV:=es.map λe=>e.1
def wls(es:List WtV):LL:=es.map λe=>e.2.1
def wws(es:List WtV):LI:=es.map λe=>e.2.2
def uz:WtV:=(undef,[],0)
theorem qGr{es}(h:p<es.length):(wus es).take (p+1)=(wus es).take p++[(es.getD p uz).1]:=by
 rw[tA,wus,bK,gE h,gD,gE h];rfl
theorem qGs{es}(h:p<es.length):((wws es).take (p+1)).map ai=((wws es).take p).map ai++[ai (es.getD p uz).2.2]:=by
 rw[tA,wws,bK,gE h,gD,gE h,mA];rfl
theorem qBf{es:List WtV}(h:p<es.length):es.getD p uz∈es:=by
 rw[gD,gE h];exact gM _
theorem WQ.cells{a:OA}{cap es}(h:WQ W B (.slice a n cap) es)(I:p<es.length):∃b o,a=some (az b o)/\W.cell? (az b (o+p*2))=some (es.getD p uz).1/\W.cell? (az b (o+p*2+1))=some (ai (es.getD p uz).2.2):=by
 have hl:=h.own.1;rcases h.own.2 with ⟨-,hz⟩|⟨g,K,cur,e,hb',O,h1,h2,h3,V⟩;omega;simp only[vI]at e;obtain⟨rfl,-,-⟩:=e;have key:∀t,t<es.length*2->W.cell? (az g t)=(es.flatMap wc)[t]?:=λt ht=>by
  rw[eI O,<-V,cL ht,dY]
 have M:∀x:WtV,(wc x).length=2:=λ_=>rfl;refine⟨g,0,rfl,?_,?_⟩;rw[cU,key _ Oo,qBg wc M,show p*2 / 2=p by omega,show p*2 % 2=0 by omega,gE I,gD,gE I];rfl;rw[cU,key _ Oo,qBg wc M,show(p*2+1) / 2=p by omega,show(p*2+1) % 2=1 by omega,gE I,gD,gE I];rfl
def qGt(w:World)(B:Nat)(es:List WtV)(e:Ending)(w':World):Prop:=∃es' vR vW,e=.returned (.tuple #[vR,vW])/\es'.Perm es/\(es'.Pairwise λa b=>¬cmpL b.2.1 a.2.1<0)/\RQ w' B vR (wus es') (wls es')/\w'.ownsRow B 3 1 vW (wws es').length ((wws es').map ai)/\(∀i,i<es'.length->ApW ((wus es').getD i undef) vW)/\Below B w w'
theorem qIX{O w' vR vW es I}(hp:I.Perm es)(hs:I.Pairwise λa b=>¬cmpL b.2.1 a.2.1<0)(hq:WQ O B v I)(hb:Below B w O)(hB:B<=O.1.size)(V:Pt O w' vR vW I.length I.length ((wus I).take I.length) (((wws I).take I.length).map ai)):qGt w B es (.returned (.tuple #[vR,vW])) w':=by
 have e1:(wus I).take I.length=wus I:=by rw[show I.length=(wus I).length by simp[wus],tL]
 have e2:(wws I).take I.length=wws I:=by rw[show I.length=(wws I).length by simp[wws],tL]
 have l1:(wls I).length=I.length:=by simp[wls]
 have l2:(wws I).length=I.length:=by simp[wws]
 have g1:∀i,i<I.length->(wus I).getD i undef=(I.getD i uz).1:=λi hi=>by rw[gD,wus,bK,gE hi,gD,gE hi];rfl
 have g2:∀i,i<I.length->(wls I).getD i []=(I.getD i uz).2.1:=λi hi=>by rw[gD,wls,bK,gE hi,gD,gE hi];rfl
 have M:=V.own1;have K:=V.own2;rw[e1]at M;rw[e2]at K;refine⟨I,vR,vW,rfl,hp,hs,⟨?_,by rw[l1];simp[wus],λi hi=>?_,λi j a3 hj g=>?_⟩,?_,λi hi g hg=>?_,hb.trans (V.bel.mono hB)⟩;rw[l1];exact qE M hB;rw[l1]at hi;rw[g1 i hi,g2 i hi];exact qB (hq.each _ (qBf hi)) V.bel;rw[l1]at hj;rw[g1 i Oo,g1 j hj];have:=List.pairwise_iff_getElem.1 hq.ap i j Oo hj a3 g;rw[gD,gE (by omega:i<I.length),gD,gE hj];exact this;rw[l2];exact qE K hB;rw[g1 i hi]at hg;have h1:=(hq.each _ (qBf hi)).lt g hg;intro h2;have h3:=K.lt g h2;omega
theorem Tryz.infoSR:(Tryz.prog.info? 24).map (λi=>(i.zero,i.size,i.bytes))=some (some sn,1,24):=Kl
theorem Tryz.infoSI:(Tryz.prog.info? 3).map (λi=>(i.zero,i.size,i.bytes))=some (some (ai 0),1,8):=Kl
theorem Yf w v{es}(h:WQ w B v es)(hM:∀e∈es,e.2.1.length<=1099511627776)(hn:es.length<=20000)(hB:B<=w.1.size):
 Cl 92 #[v] w (qGt w B es):=by
 have⟨iS,hj,c8,b8,c9⟩:=aX Tryz.infoSR;have⟨iT,hi,d0,b9,d1⟩:=aX Tryz.infoSI;have KS:=ay (Ud w B v h hM Oo);obtain⟨a,cap,rfl⟩:=qG h.own;change Hh _ at hM;clear h;have⟨n,c7⟩:=Ex es.length;change Hh _ at c7;rw[<-c7]at hn KS |-;go_enter func92,ntmps92;go_upto_region 2 with (go_at_call 129;apply KS.o.mono;rintro e K ⟨rfl,I,hp,hs,hq,hb⟩);have e1:I.length=n:=by rw[c7.o];exact hp.length_eq
 have HE:Hh (∀w' vR V,Pt K w' vR V n n ((wus I).take n) (((wws I).take n).map ai)->qGt w B es (.returned (.tuple #[vR,V])) w'):=ay λw' vR V hP=>qIX hp (hs.imp λh=>Int.not_lt.2 h) hq hb (bM hB hb.size) (by rw[e1];exact hP);have HQ:Hh (∀W,Bl K W->∀p,p<n->∃b o,a=some (az b o)/\W.cell? (az b (o+p*2))=some (I.getD p uz).1/\aC W b (o+p*2+1) (ai (I.getD p uz).2.2)):=ay λW hW p hp=>by
  have⟨b,o,e,h1,h2⟩:=hq.cells (p:=p) Oo;exact⟨b,o,e,xE hW h1,xE hW h2⟩
 have e2:Hh (∀p,p<n->∃ax lx cx,(I.getD p uz).1=.slice ax lx cx):=ay λp hp=>by
  have⟨ax,cx,e⟩:=qG (hq.each _ (qBf (p:=p) Oo));exact⟨ax,_,cx,e⟩
 have e3:Hh (∀p,p<n->(wus I).take (p+1)=(wus I).take p++[(I.getD p uz).1]):=ay λp hp=>qGr Oo;have e4:Hh (∀p,p<n->((wws I).take (p+1)).map ai=((wws I).take p).map ai++[ai (I.getD p uz).2.2]):=ay λp hp=>qGs Oo;clear hp hs hq hb KS hM c7 hB;have m1:∀W:World,Sem.run Tryz.prog (Instr.makeSlice 23 (ai 0) (ai (n:Int))) W=.ok (sZ W.1.size 0 0 n) (aJ W (madeCells sn.cells (n*1)) 24):=λW=>by
  have:=run_makeSlice W 23 24 _ _ underlying23 hj c8 .i64 .i64 0 n Oo Oo (by rw[b8];omega) (by rw[c9];omega) Oo;rw[b8]at this;simpa using this
 have m2:∀W:World,Sem.run Tryz.prog (Instr.makeSlice 24 (ai 0) (ai (n:Int))) W=.ok (sZ W.1.size 0 0 n) (aJ W (madeCells (ai 0).cells (n*1)) 3):=λW=>by
  have:=run_makeSlice W 24 3 _ _ underlying24 hi d0 .i64 .i64 0 n Oo Oo (by rw[b9];omega) (by rw[d1];omega) Oo;rw[b9]at this;simpa using this
 have s1:(madeCells sn.cells (n*1)).size=n*1:=size_madeCells _ _;have s2:(madeCells (ai 0).cells (n*1)).size=n*1:=size_madeCells _ _;generalize madeCells sn.cells (n*1)=M1,madeCells (ai 0).cells (n*1)=M2 at *;have a6:n<=maxLen:=Um;have HA:Hh (Pt K (((aJ K M1 24).alloc (.cells M2 3))) (sZ K.1.size 0 0 n) (sZ (K.1.size+1) 0 0 n) 0 0 [] []):=ay ⟨(aK).alloc Ss _,(oM K _ n eA a6 s1).alloc _,by
  have:=oM (base:=K.1.size) (e:=3) (aJ K M1 24) _ n Ss a6 s2;rw[aM]at this;exact this⟩
 have d2:Hh (Pt K (((aJ K M2 3).alloc (.cells M1 24))) (sZ (K.1.size+1) 0 0 n) (sZ K.1.size 0 0 n) 0 0 [] []):=ay ⟨(aK).alloc Ss _,by
  have:=oM (base:=K.1.size) (e:=24) (K.alloc (.cells M2 3)) _ n Ss a6 s1;rw[aM]at this;exact this,(oM K _ n eA a6 s2).alloc _⟩
 go_cut [4,5] from 10 to 16 (λx y wx=>∃vR V,vR=x/\V=y/\Hh (Pt K wx vR V 0 0 [] []))
 case first=>
  go_region_law (fail)
  all_goals
   go_wp2
   go_meet
   first
    |exact⟨_,_,rfl,rfl,ay HA.o.drew⟩
    |exact⟨_,_,rfl,rfl,ay d2.o.drew⟩
 case rest=>
  obtain⟨e8,e9,rfl,rfl,d3⟩:=hcut;clear HA d2 m1 m2 s1 s2;go_wp2;go_loopw [4,5,18] (λx y t wr=>∃(p:Nat) (vR V:Value),p<=n/\t=ai p/\vR=x/\V=y/\Hh (Pt K wr vR V p p ((wus I).take p) (((wws I).take p).map ai))) (λ_ _ t _=>n-(intOf t).toNat);exact⟨0,_,_,eC,rfl,rfl,rfl,d3⟩;clear d3;obtain⟨p,vR,V,f7,rfl,rfl,rfl,HP⟩:=hrel;by_cases a7:p<n
  .have i1:=aV a7;have⟨b,o,ea,g0,g1⟩:=HQ _ HP.o.bel p a7;subst ea;have⟨ax,lx,cx,ex⟩:=e2 p a7;have b1:=ay (e3 p a7);have d4:=ay (e4 p a7);rw[ex]at g0 b1;generalize (I.getD p uz).2.2=kx at *;have hsz:=HP.o.bel.size;go_upto_region 6 with fail;have⟨W5,O⟩:=Ex (wr.alloc (.cells #[.slice ax lx cx,ai kx] 140));have t0:W5.cell? (az wr.1.size 0)=some (.slice ax lx cx):=by rw[O,eH rfl];rfl
   have t1:W5.cell? (az wr.1.size 1)=some (ai kx):=by rw[O,eH rfl];rfl
   have d5:Hh (∃cur,W5.1[wr.1.size]?=some (.cells cur 140 (0,0))):=ay ⟨_,by rw[O];exact eO⟩;have hs5:K.1.size<=W5.1.size:=by rw[O];simp;omega
   have b7:wr.1.size<W5.1.size:=by rw[O];simp
   have a8:Hh (Pt K W5 vR V p p ((wus I).take p) (((wws I).take p).map ai)):=ay (by rw[O];exact HP.o.al _);rw[<-O];clear O HP g0 g1;generalize wr.1.size=bx at *;go_upto_region 7 with (at_builtin;refine wpList_append_lies _ rfl _ _ 23 rfl _ 24 _ _ 1 _ underlying23 hj c8 b8 c9 rfl Dd vR _ _ rfl (a8.o.own1.alloc _) (az _ 0) 1 1 _ rfl rfl (qH _ _ _) (λu hu=>by simp at hu;subst hu;rfl) Dd Um Oo Sy _ rfl ?_;intro g8 d6 w8 a4 M d7 d8);have a9:Hh (Pt K w8 (sZ g8 0 (p+1) d6) V (p+1) p ((wus I).take (p+1)) (((wws I).take p).map ai)):=ay (by rw[b1.o];exact(a8.o.al _).one a4 M);have e5:w8.cell? (az bx 1)=some (ai kx):=(bF (zD M b7 (own_ne a8.o.own1 d5.o Dd))).trans t1;have f8:=a9.o.bel.size;clear a4 M d7 d8 t0 t1 a8 d5 hs5 b7;go_wp2_with (at_builtin;refine wpList_append_lies _ rfl _ _ 24 rfl _ 3 _ _ 1 8 underlying24 hi d0 b9 d1 rfl Dd V _ _ rfl (a9.o.own2.alloc _) (az _ 0) 1 1 _ rfl rfl (qH _ _ _) (λu hu=>by simp at hu;subst hu;rfl) Dd Um Oo Sy _ rfl ?_;intro g9 e6 w9 a5 a3 d9 e0);have e7:Hh (Pt K w9 (sZ g8 0 (p+1) d6) (sZ g9 0 (p+1) e6) (p+1) (p+1) ((wus I).take (p+1)) (((wws I).take (p+1)).map ai)):=ay (by rw[d4.o];exact(a9.o.al _).two a5 a3);clear a5 a3 d9 e0 e5 a9;go_wp2;go_roundw;exact⟨p+1,_,_,Oo,Gg,rfl,rfl,e7⟩;exact Im
  obtain rfl:p=n:=Oo;have i1:=aY p;have HF:=ay (HE _ _ V HP);clear HP HE HQ;go_wp2_with fail;refine aU (v:=.tuple #[vR,V]) (by simp[results,results92,go_sem]) rfl ?_;exact HF
def WF(W:World)(B:Nat)(v:Value)(l:List (LI×Int)):Prop:=∃es:List WtV,WQ W B v es/\es.map (λe=>e.2)=l
theorem WF.below{l}(h:WF W B v l)(hb:Bl W W'):WF W' B v l:=by
 have⟨es,hq,e⟩:=h;exact⟨es,⟨qB hq.own hb,λx I=>qB (hq.each x I) hb,hq.ap⟩,e⟩
theorem WF.row{W0 l}(h:WF W0 B v l)(hB:B<=W0.1.size):∃xs,W0.ownsRow B 140 2 v l.length xs/\∀W u row wt o w3 v',Bl W0 W->W.ownsRow W0.1.size 3 1 u row.length (row.map ai)->(W.alloc o).grownBy w3 v.ownBlock->w3.ownsRow B 140 2 v' (l.length+1) (xs++[u,ai wt])->WF w3 B v' (l++[(row,wt)]):=by
 obtain⟨es,hq,rfl⟩:=h;rw[lM];refine⟨es.flatMap wc,hq.own,λW u row wt o w3 v' hb V hg I=>?_⟩;have hint:∀{x:Value} {k B':Nat} {xs:LV},W.ownsRow B' 3 1 x k xs->w3.ownsRow B' 3 1 x k xs:=λK=>
  qD K λg M=>zD hg (K.lt g M).2 (own_ne (qB hq.own hb) (qK K M) Dd)
 refine⟨es++[(u,row,wt)],⟨?_,λe O=>?_,?_⟩,by rw[mA];rfl⟩;rw[lA,dM];exact I
 .rcases cF.1 O with O|O;exact hint (qB (hq.each e O) hb);rw[cI.1 O];exact qE (hint V) hB
 refine List.pairwise_append.2 ⟨hq.ap,List.pairwise_singleton _ _,λx K y hy g h1 h2=>?_⟩;rw[cI.1 hy]at h2;have h3:=((hq.each x K).lt g h1).2;have h4:=(V.lt g h2).1;omega
theorem qEE{x y t}:∀j u,[x,y][j]?=some u->(w.alloc (.cells #[x,y] t)).cell? (((az w.1.size 0):Addr).add j)=some u:=by
 intro j u I;have e:((az w.1.size 0):Addr).add j=(az w.1.size j):=by unfold Addr.add;by_cases K:j=0 <;> simp[K]
 rw[e,eH rfl];match j,I with
 |0,I=>simpa using I
 |1,I=>simpa using I
 |j+2,I=>simp at I
theorem Tryz.infoWt:(Tryz.prog.info? 140).map (λi=>(i.zero,i.size,i.bytes))=some (some (.agg #[sn,ai 0]),2,32):=Kl
end Go.Proofs.YtnpgdnaeghilhaaGreat
