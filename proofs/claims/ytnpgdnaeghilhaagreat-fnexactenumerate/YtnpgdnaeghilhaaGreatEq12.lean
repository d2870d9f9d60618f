import Derived.Ground.SlgmProg
import Derived.Lib.SlKeysI
import Derived.Shelf.SortM.Plain
import Derived.Shelf.SortM.SortNone
import Derived.Test.YtnpgdnaeghilhaaGreatProg
import Derived.Test.YtnpgdnaeghilhaaGreatEq11
set_option maxHeartbeats 40000000
set_option maxRecDepth 1000000
namespace Go.Proofs
open Go.Shelf Tryz YtnpgdnaeghilhaaGreat
def Tryz.sortA_ren:Ren:=⟨λ|5=>153|8=>163|7=>182|19=>205|20=>206|10=>222|11=>223|12=>224|13=>225|14=>226|15=>227|16=>183|17=>228|18=>229|30=>238|31=>233|32=>234|33=>239|34=>240|35=>207|40=>250|n=>n,λ|23=>24|25=>3|3=>3|32=>224|22=>24|0=>0|44=>272|46=>275|4=>4|36=>281|35=>280|41=>217|5=>5|9=>9|53=>300|57=>304|63=>313|64=>314|n=>n,λ|n=>n⟩
theorem Tryz.sortA:SlLaysM.n5 prog sortA_ren:=⟨Kl,⟨f153.1,Dd,tS func153⟩,⟨f182.1,Dd,tS func182⟩,tS func163,⟨f222.1,Dd,tS func222⟩,⟨f223.1,Dd,tS func223⟩,⟨f224.1,Dd,tS func224⟩,⟨f225.1,Dd,tS func225⟩,⟨f226.1,Dd,tS func226⟩,⟨f227.1,Dd,tS func227⟩,⟨f183.1,Dd,tS func183⟩,⟨f228.1,Dd,tS func228⟩,⟨f229.1,Dd,tS func229⟩,tS func205,tS func206,⟨f238.1,Dd,tS func238⟩,tS func233,tS func234,⟨f239.1,Dd,tS func239⟩,⟨f240.1,Dd,tS func240⟩,⟨f207.1,Dd,tS func207⟩,⟨f250.1,Dd,tS func250⟩,underlying0,isAgg0,sizeOf0,zeroValue0,underlying3,isAgg3,sizeOf3,zeroValue3,underlying4,isAgg4,sizeOf4,zeroValue4,underlying5,isAgg5,sizeOf5,zeroValue5,underlying9,isAgg9,sizeOf9,zeroValue9,underlying24,isAgg24,sizeOf24,zeroValue24,underlying24,isAgg24,sizeOf24,zeroValue24,underlying3,isAgg3,sizeOf3,zeroValue3,underlying224,isAgg224,sizeOf224,zeroValue224,underlying280,isAgg280,sizeOf280,zeroValue280,underlying281,isAgg281,sizeOf281,zeroValue281,underlying217,isAgg217,sizeOf217,zeroValue217,underlying272,isAgg272,sizeOf272,zeroValue272,underlying275,isAgg275,sizeOf275,zeroValue275,underlying300,isAgg300,sizeOf300,zeroValue300,underlying304,isAgg304,sizeOf304,zeroValue304,underlying313,isAgg313,sizeOf313,zeroValue313,underlying314,isAgg314,sizeOf314,zeroValue314⟩
end Go.Proofs
namespace Go.Proofs.YtnpgdnaeghilhaaGreat
open Go.Proofs.Tryz Go.RowKit Meet Go.Shelf
variable {vs:LI}{B v:Nat}{t:TbV}{W w:World}
attribute [local go_sem] Oper.semAt_some
theorem Jd(a:OA)n c:
 aF 114 #[.slice a n c] w (.func (.func 154) #[] #[.pointer (some (az w.1.size 0))]) λw'=>w'=w.alloc (.cells #[.slice a n c] 24):=by
 go_enter func114,ntmps114;go_wp2;go_ret;exact⟨rfl,rfl⟩
theorem Je{bS vs}ls(hb:w.1[bS]?=some (.cells #[vs] 24 (0,0)))(h:IS w vs ls)(hl:ls.length<=1099511627776):
 Gives Tryz.prog 154 #[.pointer (some (az bS 0))] (λx:Int=>#[ai x]) (λ_=>Below w.1.size) (λ_ _ _=>True) (λpre x b _ _=>b=x/\pre.length<ls.length) ls w:=by
 intro l J Jx W M b8 b9 hJ c7 hY h0;show Calls _ _ #[.func (.yield l) #[] #[],.pointer (some (az bS 0))] W _;have hb':W.cell? (az bS 0)=some vs:=by rw[eI ((M.block _ (qZ hb)).trans hb)];rfl
 obtain⟨a,cap,rfl,hc⟩:=h;have HC:Hh (∀W',Bl w W'->∀j,j<ls.length->∃b o,a=some (az b o)/\W'.cell? (az b (o+j))=some (ai (ls.getD j 0))):=λW' a6 j hj=>by
  rcases hc with h0|⟨b,o,rfl,h⟩;omega;exact⟨b,o,rfl,xE a6 (h j hj)⟩
 have HT:Hh (∀j,j<ls.length->ls.take (j+1)=ls.take j++[ls.getD j 0]):=λj hj=>qy hj;have V:Hh (ls.take ls.length=ls):=tL;change Hh _ at hY hJ M;have a8:Hh (J (ls.take 0) W):=h0;clear hb hc h0;have⟨n,hn⟩:=Ex ls.length;rw[<-hn]at hl HC HT V hb' hY;have a9:Hh (∀j,j<=n->(ls.take j).length=j):=λj hj=>by rw[bZ];omega
 clear hn;go_enter func154,ntmps154;go_wp2;go_loopw [7] (λt wr=>∃(j:Nat),j<=n/\t=ai j/\Hh (∃X,J (ls.take j) X/\KT W.1.size X wr/\Bl w wr)) (λt _=>n-(intOf t).toNat);exact⟨0,eC,rfl,ay ⟨W,a8,KT.refl _ _,M⟩⟩;obtain⟨j,b1,rfl,K⟩:=hrel;by_cases O:j<n
 .have i1:=aV O;have⟨X,h1,h2,h3⟩:=K.o;have⟨b,o,ea,c1⟩:=HC _ h3 j O;subst ea;have⟨fn,tmps,assign,body,hy,hR⟩:=hY _ _ (ls.getD j 0) X _ h1 h2 ⟨rfl,by rw[a9.o j b1];exact O⟩;have HN:Hh (∀Z,J (ls.take j++[ls.getD j 0]) Z->Below w.1.size wr Z->∃X,J (ls.take (j+1)) X/\KT W.1.size X Z/\Bl w Z):=λZ g1 g2=>⟨Z,by rw[HT.o j O];exact g1,KT.refl _ _,h3.trans g2⟩;have HR:=ay hR;clear hR h1 h2 h3 K HC hY;generalize ls.getD j 0=x at *;refine(wpIn_wide (n:=0)).1 ?_;gi_wp2
  refine⟨rfl,?_⟩;apply HR.o.mono;rintro e w9 (⟨rfl,a3,a4⟩|⟨rfl,a5,-⟩)
  .have b7:=ay (HN _ a3 a4);clear a3 a4 hy HR HN;gi_wp2
   go_wp2;go_roundw;exact⟨j+1,Oo,Gg,b7⟩;exact Im
  clear hy HR HN;gi_wp2
  go_wp2_with fail;refine aU (results_none rfl _ _ _) rfl ?_;exact⟨⟨_,rfl⟩,.inr a5⟩
 obtain rfl:j=n:=Oo;have i1:=aY j;have HF:=ay (by
  have⟨X,h1,h2,h3⟩:=K.o;rw[V.o]at h1;exact hJ _ _ _ h1 h2)
 clear K HC hY;go_wp2;go_end0
 exact⟨⟨_,rfl⟩,.inl HF⟩
theorem Gives.later{α β P gf lb I M O}{K:List α->α->β->World->WP}{xs w'}(h:Gives P gf lb I M O K xs w)(hb:Bl w w'):Gives P gf lb I M O K xs w':=
 λl J V W hW h1 h2=>h l J V W (hb.trans (hW.mono hb.size)) h1 (bM hb.size h2)
theorem VI w{gf:Nat}{lb}{ls:LI}(hl:ls.length<=1048576)(eg:∀args W,(callFunc gf args).run Tryz.prog W=.ok (.enter gf args) W)
 (a6:Gives Tryz.prog gf lb (λx:Int=>#[ai x]) (λ_=>Below w.1.size) (λ_ _ _=>True) (λpre x b _ _=>b=x/\pre.length<ls.length) ls w):
 Cl 181 #[sn,.func (.func gf) #[] lb] w λe w'=>∃v,e=.returned v/\w'.ownsRow w.1.size 3 1 v ls.length (ls.map ai)/\Bl w w':=by
 have⟨V,M⟩:=Ex (w.alloc (.cells #[sn] 24));have a7:Bl w V:=by rw[M];exact qC eB _
 have b7:V.1[w.1.size]?=some (.cells #[sn] 24 (0,0)):=by rw[M];exact World.alloc_heap_new w _
 have hs1:V.1.size=w.1.size+1:=by rw[M];simp
 refine(callsIn_wide (n:=0)).1 (callsIn_of_wp_marks func181 rfl trivial ?_ rfl);simp only[ntmps181,List.size_toArray,cQ,List.length_nil,Nat.reduceAdd,Nat.reduceSub,Array.replicate_succ,Array.replicate_zero,List.push_toArray,List.append_toArray,List.nil_append,List.cons_append];refine(wpIn_wide).2 ?_;have⟨i0,hi,b8,b9,c7⟩:=aX Tryz.infoInt;go_wp2_with fail;rw[<-M];clear M;refine(wpIn_wide (n:=0)).1 ?_;have d7:=ay hs1;have d8:w.1.size<V.1.size:=Oo;clear hs1;obtain⟨II,a3⟩:∃II:LI->WP,II=λpre W=>(∃v,Boxed W w.1.size 24 v/\W.ownsRow w.1.size 3 1 v pre.length (pre.map ai))/\Bl w W:=⟨_,rfl⟩;have a4:∀s X Y,II s X->KT V.1.size X Y->II s Y:=λs X Y hX hk=>by
  rw[a3]at hX |-;have⟨⟨v,hv,ho⟩,hb⟩:=hX;exact⟨⟨v,(hk.cel _ _ _ _ hv Dd Dd).trans hv,qD ho λg hg=>by
   have⟨cur,hc⟩:=qK ho hg;exact hk.cel g _ _ _ hc Dd Dd⟩,hb.trans (hk.bel.mono Oo)⟩
 refine QB rfl eg (a6.later a7) (λ_=>rfl)
  (λh1 h2=>Below.trans h1 h2) (λl W o o' h1 h2 h3=>(KT.put _ Oo h2 h3).bel) (λ_ _ _=>trivial)
  _ (λ_ _=>False) a4 (λ_ _ _ h _=>h) (by rw[a3];exact⟨⟨_,b7,eK⟩,a7⟩)
  (λl pre x b a' W=>II pre W/\pre.length<ls.length/\a'={ tmps:=#[sn,.func (.func gf) #[] lb,.pointer (some (az w.1.size 0)),undef,sn,ai x,.func (.func gf) #[] lb,ai x,undef,undef,undef,undef,undef],defers:=[] })
  (λl pre x b a' W o o' h1 h2 h3 h4=>⟨a4 _ _ _ h1.1 (KT.put _ h2 h3 h4),h1.2⟩)
  ?assign ?body ?done ?stop
 case assign=>
  rintro l pre x b X Y K c8 hI hk ⟨rfl,a8⟩ ⟨rr,c9⟩ hK;gi_wp2
  exact hK _ _ (KeepsFrom.refl _ _) eB ⟨a4 _ _ _ hI hk,a8,rfl⟩
 case body=>
  rintro l pre x b a' W c8 ⟨rr,c9⟩ ⟨hI,a8,rfl⟩;rw[a3]at hI |-;have⟨⟨v,hv,I⟩,hB⟩:=hI;have d1:=hv.cell;gi_wp2_with (first
   |(gi_at_builtin;refine wpListIn_append_own _ rfl _ _ 24 rfl _ 3 _ _ 1 8 underlying24 hi b8 b9 c7 rfl Dd _ _ _ rfl (I.alloc _) (az _ 0) 1 1 _ rfl rfl (qH _ _ _) (λu hu=>by simp at hu;subst hu;rfl) Um Oo (by have:=hB.size;simp;omega) ?_;intro v' w1 O a5 d2;obtain⟨g',d6,rfl⟩:=ownsRow_succ O;have⟨a9,d3,d4,d5,b1⟩:=hv.appended Dd I hB.size eA O a5;have hc1:=a9.cell;have d9:=a9.frozen)
   |gi_in)
  exact⟨d5.from _,b1,⟨⟨_,d3,by rw[mA,lA];exact d4⟩,hB.trans b1⟩⟩
 case done=>
  intro D W hD hI hK;rw[a3]at hI;have⟨⟨v,hv,I⟩,hB⟩:=hI;have d1:=hv.cell;simp only[Exit.inBlock,Exit.then];go_wp2_with fail;have hp:=KT.put (.deferred none) Oo hK rfl;refine⟨Ss,.inl ⟨D,_,rfl,run_takeDeferred hK,v,by simp[results,results181,go_sem],v,rfl,qD I λg hg=>?_,hB.trans (hp.bel.mono Oo)⟩⟩;have⟨cur,hc⟩:=qK I hg;exact hp.cel g _ _ _ hc Dd Dd
 case stop=>
  rintro D c W _ h _;exact h.elim
theorem UF w{gf:Nat}{lb}{ls:LI}(hl:ls.length<=1048576)(K:∀args W,(callFunc gf args).run Tryz.prog W=.ok (.enter gf args) W)
 (I:Gives Tryz.prog gf lb (λx:Int=>#[ai x]) (λ_=>Below w.1.size) (λ_ _ _=>True) (λpre x b _ _=>b=x/\pre.length<ls.length) ls w):
 Cl 152 #[.func (.func gf) #[] lb] w λe w'=>∃v,e=.returned v/\w'.ownsRow w.1.size 3 1 v ls.length (ls.map ai)/\Bl w w':=by
 have M:=ay (VI w hl K I);clear I;go_enter func152,ntmps152;go_wp2_with (go_at_call 181;apply M.o.mono;rintro e w' ⟨v,rfl,ho,hb⟩);go_ret;exact⟨v,rfl,ho,hb⟩
theorem Jf w0 w v{ls:LI}(ho:w.ownsRow w0.1.size 3 1 v ls.length (ls.map ai))(hb:Bl w0 w)(hl:ls.length<=1048576):
 aF 153 #[v] w (.tuple #[]) λw'=>w'.ownsRow w0.1.size 3 1 v ls.length ((ls.mergeSort λx y=>decide (x<=y)).map ai)/\Bl w0 w':=by
 rcases ho.2 with ⟨rfl,O⟩|⟨M,cap,cur,rfl,I,K,r1,r2,V,r4⟩;have:=List.eq_nil_of_length_eq_zero O;subst this;apply (AnyM.slices_Sort_int_none Tryz.sortA none 0 w).mono;rintro e w' ⟨rfl,rfl⟩;exact⟨rfl,by simpa using ho,hb⟩;apply (AnyM.slices_Sort_int Tryz.sortA M 0 cap _ w (holds_of_block_i K (by simpa using r4)) (qZ K) Oo).mono;rintro e w' ⟨rfl,nn,os,rfl⟩;exact⟨rfl,ownsRow_sorted_i Ss I K r1 r2 V,hb.grown (grownBy_sorted_i _) hb.size (λj hj=>by cases hj;exact I)⟩
theorem Jg(gf:Nat){lb}(ls:LI)(hl:ls.length<=1048576)(O:∀args W,(callFunc gf args).run Tryz.prog W=.ok (.enter gf args) W)
 (I:Gives Tryz.prog gf lb (λx:Int=>#[ai x]) (λ_=>Below w.1.size) (λ_ _ _=>True) (λpre x b _ _=>b=x/\pre.length<ls.length) ls w):
 Cl 113 #[.func (.func gf) #[] lb] w λe w'=>∃v,e=.returned v/\w'.ownsRow w.1.size 3 1 v ls.length ((ls.mergeSort λx y=>decide (x<=y)).map ai)/\Bl w w':=by
 have V:=ay (UF w hl O I);clear I;go_enter func113,ntmps113;go_wp2_with (first|go_at_call 152;apply V.o.mono;rintro e w' ⟨v,rfl,ho,hb⟩|go_at_call 153;apply ((λW v h1 h2=>Jf w W v h1 h2 hl) _ _ ho hb).mono;rintro e w'' ⟨rfl,K,M⟩);go_ret;exact⟨v,rfl,K,M⟩
def MX(W:World)(k:Nat)(m:NB):Prop:=W.1[k]?=some (.cells (YR m) 170 (0,0))
section
variable {W W':World} {k:Nat} {m:NB}
theorem MX.below(h:MX W k m)(hb:Bl W W'):MX W' k m:=(hb.block _ (qZ h)).trans h
theorem MX.cell(h:MX W k m)(hv:v<6):W.cell? (az k v)=some (.bool (m v)):=by rw[eI h];exact qGM m hv
theorem MX.free(h:MX W k m)j:W.frozen? (az k j)=false:=by unfold World.frozen?;rw[show W.1[k]?=_ from h];simp
theorem MX.set(h:MX W k m)(hv:v<6):MX (W.setCell (az k v) (.bool true)) k (λi=>m i||decide (i=v)):=by
 unfold MX;rw[eN h];obtain rfl|rfl|rfl|rfl|rfl|rfl:v=0\/v=1\/v=2\/v=3\/v=4\/v=5:=Oo;all_goals simp[YR]
theorem MX.congr{K}(h:MX W k m)(I:∀i,i<6->K i=m i):MX W k K:=by
 have:YR K=YR m:=by unfold YR;rw[I 0 Oo,I 1 Oo,I 2 Oo,I 3 Oo,I 4 Oo,I 5 Oo]
 unfold MX;rw[this];exact h
end
theorem qGF{o:LI}{vr:LI}(hv:vr.Pairwise (·< ·)):decide (o.mergeSort (λx y=>decide (x<=y))=vr)=true↔vr.Perm o:=by
 rw[dE];constructor;intro h;rw[<-h];exact List.mergeSort_perm _ _;intro h;have I:vr.mergeSort (λx y=>decide (x<=y))=vr:=List.mergeSort_of_pairwise (hv.imp λ{a b} h=>fD Oo);rw[<-I];exact mergeSort_of_perm_i h.symm
theorem qE2 tl(o:LI):decide (o.mergeSort (λx y=>decide (x<=y))=vrJ tl)=jd tl o:=by
 rw[Bool.eq_iff_iff,qGF (show(vrJ tl).Pairwise (·< ·) from qAu _ _),xp]
theorem VK w{vt vo tl}o(h:ITs w vt tl)(ho:IS w vo o)(hl:tl.length<=1000)(d2:o.length<=1048576)(d3:∀t∈tl,qW t=true):
 aG 82 #[vt,vo] w (.bool (jd tl o)):=by
 obtain⟨f7,ct,rfl,hc⟩:=h;have a4:=ay λj hj=>by
  have h1:=d3 (tl.getD j qA) (by rw[gD,gE hj];exact gM _);exact(qL h1).1
 have HC:Hh (∀W,Bl w W->∀j,j<tl.length->∃b oo,f7=some (az b oo)/\TabAt W b (oo+j*3) (tl.getD j qA)):=ay λW hW j hj=>by
  rcases hc with h0|⟨b,oo,rfl,h⟩;omega;exact⟨b,oo,rfl,(h j hj).below hW⟩
 have HH:Hh (∀j,j<tl.length->∀i,qp (tl.take (j+1)) i=(qp (tl.take j) i||decide ((i:Int)∈(tl.getD j qA).vs))):=ay λj hj i=>qE1 hj i;have a6:Hh (qp (tl.take tl.length)=qp tl):=ay (by rw[tL]);have f8:Hh (∀i,qp (tl.take 0) i=false):=ay λi=>rfl;have HO:=ay ho;obtain⟨ao,co,rfl,-⟩:=ho;have KV:Hh (∀W,Bl w W->Cl 113 #[.func (.func 154) #[] #[.pointer (some (az W.1.size 0))]] (aJ W #[.slice ao o.length co] 24) λe w'=>∃v,e=.returned v/\w'.ownsRow (aJ W #[.slice ao o.length co] 24).1.size 3 1 v o.length ((o.mergeSort λx y=>decide (x<=y)).map ai)/\Below (W.alloc (.cells #[.slice ao o.length co] 24)).1.size (W.alloc (.cells #[.slice ao o.length co] 24)) w'):=ay λW hW=>
  Jg 154 o d2 (enters_of func154 Kl rfl) (Je o (World.alloc_heap_new W _) ((HO.o.below hW).below (qC (bJ _ _) _)) Oo)
 have KQ:Hh (∀W v1 v2,IS W v1 (o.mergeSort λx y=>decide (x<=y))->IS W v2 (vrJ tl)->Cl 112 #[v1,v2] W λe w'=>e=.returned (.bool (jd tl o))/\∃q,w'=W.drewN q):=ay λW v1 v2 h1 h2=>by
  have:=Zo W h1 h2 (by rw[List.length_mergeSort];omega) (bM (XV tl) Dd);rw[qE2]at this;exact this
 obtain⟨n,hn⟩:=Ex tl.length;rw[<-hn]at hl HC a4 HH a6 |-;clear hn hc d3 HO;obtain⟨no,a7⟩:=Ex o.length;rw[<-a7]at KV d2 |-;change Hh _ at a7;obtain⟨d4,a5⟩:=Ex (jd tl o);rw[<-a5]at KQ |-;clear a5;obtain⟨W1,a8⟩:=Ex (w.alloc (.cells #[.bool false,.bool false,.bool false,.bool false,.bool false,.bool false] 170));have d5:Hh (Bl w W1/\MX W1 w.1.size (qp (tl.take 0))):=ay (by rw[a8];exact⟨qC (bJ _ _) _,World.alloc_heap_new w _⟩);go_enter func82,ntmps82;go_wp2_with fail;rw[<-a8];clear a8;go_loopw [12] (λt wr=>∃(j:Nat),j<=n/\t=ai j/\Hh (Bl w wr/\MX wr w.1.size (qp (tl.take j)))) (λt _=>n-(intOf t).toNat);exact⟨0,nZ _,rfl,d5⟩;clear d5 f8;obtain⟨j,h7,rfl,M⟩:=hrel;by_cases a9:j<n
 .have i1:(j:Int)<n:=Oo;obtain⟨b,oo,ea,v0,v1,v2,d6,d7,d8,hI⟩:=HC w (bJ _ _) j a9;subst ea;have c0:=xE M.1 d6;have c1:=xE M.1 d7;have c2:=xE M.1 d8;clear d6 d7 d8;have O:=a4 j a9;have g4:=ay (HH j a9);obtain⟨W3,V⟩:=Ex (wr.alloc (.cells #[v0,v1,v2] 58));have b7:Bl wr W3:=by rw[V];exact(bJ _ _).alloc (nR _) _
  have b8:Hh (TX W3 wr.1.size v0 v1 v2):=ay (by rw[V];exact TX.made _ _ _ _);have d9:=ay (bt M.1 b7);have b9:=ay (M.2.below b7);have h8:=ay (qZ M.2);have g5:=xz O;have e3:Hh (∀i,i<(tl.getD j qA).vs.length->∃v:Nat,(tl.getD j qA).vs.getD i 0=(v:Int)/\v<6):=ay λi hi=>by
   have:=Q8 O i hi;exact⟨((tl.getD j qA).vs.getD i 0).toNat,Oo,Oo⟩
  obtain⟨a0,k0,e0,-⟩:=hI.vs;obtain⟨a1,k1,e1,-⟩:=hI.rows;obtain⟨a2,k2,e2,-⟩:=hI.ws;subst e0 e1 e2;have e5:Hh (∀i,i<(tl.getD j qA).vs.length->(tl.getD j qA).vs.take (i+1)=(tl.getD j qA).vs.take i++[(tl.getD j qA).vs.getD i 0]):=ay λi hi=>qy hi;have e6:Hh ((tl.getD j qA).vs.take (tl.getD j qA).vs.length=(tl.getD j qA).vs):=ay (tL);generalize tl.getD j qA=tb at *;have c7:Hh (∀W,Bl w W->∀i,i<tb.vs.length->∃b o,a0=some (az b o)/\W.cell? (az b (o+i))=some (ai (tb.vs.getD i 0))):=ay λW hW i hi=>by
   obtain⟨a,c,e,hc⟩:=hI.vs.below hW;cases e
   rcases hc with h0|⟨b,o,rfl,h⟩;omega;exact⟨b,o,rfl,h i hi⟩
  generalize tb.rows.length=nr,tb.ws.length=n2 at *;clear hI O b7 HC a4 M;obtain⟨nv,e7⟩:=Ex tb.vs.length;rw[<-e7]at g5 e3 e5 e6 c7 V b8 c0;clear e7;have d0:=b8.o.c0;go_upto_region 5 with fail;rw[<-V];clear V c0 c1 c2;have h9:=qZ b9;go_wp2;go_loopw [19] (λt wr2=>∃(i:Nat),i<=nv/\t=ai i/\Hh (Bl w wr2/\MX wr2 w.1.size (λq=>qp (tl.take j) q||decide ((q:Int)∈tb.vs.take i)))) (λt _=>nv-(intOf t).toNat);exact⟨0,nZ _,rfl,ay ⟨d9,b9.o.congr λi _=>Ss⟩⟩;obtain⟨i,i0,rfl,I⟩:=hrel;by_cases a3:i<nv
  .have i2:(i:Int)<nv:=Oo;obtain⟨b2,o2,g6,e1⟩:=c7 _ I.1 i a3;subst g6;obtain⟨v,ev,e8⟩:=e3 i a3;have c8:=ay (e5 i a3);rw[ev]at c8 e1;have m1:((v:Nat):Int)<6:=Oo;have m0:¬((v:Nat):Int)<0:=Oo;have m2:(0:Int)<=v:=Oo;have q1:=I.2.cell e8;have q2:=I.2.free v;have HN:Hh (∀W:World,W=(wr:World)->Bl w (sC W w.1.size v (.bool true))/\MX (W.setCell (az w.1.size v) (.bool true)) w.1.size (λq=>qp (tl.take j) q||decide ((q:Int)∈tb.vs.take (i+1)))):=ay λW hW=>by
    subst hW;refine⟨I.o.1.setCell (by show _<=w.1.size;omega) _,(I.o.2.set e8).congr λq _=>?_⟩;rw[c8.o];simp only[List.mem_append,List.mem_singleton,Bool.decide_or,Bool.or_assoc];congr 2;simp only[decide_eq_decide];omega
   clear I c8 ev;go_wp2;go_roundw;exact⟨i+1,Oo,Gg,ay (HN _ rfl)⟩;exact Im
  obtain rfl:i=nv:=Oo;have i2:=aY i;have HN:Hh (Bl w wr/\MX wr w.1.size (qp (tl.take (j+1)))):=ay ⟨I.1,I.2.congr λq _=>by rw[e6.o];exact g4 q⟩;clear I d9 b9 b8 c7;go_wp2;go_roundw;exact⟨j+1,Oo,Gg,HN⟩;exact Im
 obtain rfl:j=n:=Oo;have i1:=aY j;rw[a6.o]at M;have g7:=ay M.2;have HB:=ay M.1;clear M HH a6 a4 HC;have c9:Hh (∀W,Bl wr W->W.cell? (az w.1.size 0)=some (.bool (qp tl 0))/\W.cell? (az w.1.size 1)=some (.bool (qp tl 1))/\W.cell? (az w.1.size 2)=some (.bool (qp tl 2))/\W.cell? (az w.1.size 3)=some (.bool (qp tl 3))/\W.cell? (az w.1.size 4)=some (.bool (qp tl 4))/\W.cell? (az w.1.size 5)=some (.bool (qp tl 5))):=ay λW hW=>by
  have h:=g7.o.below hW;exact⟨h.cell Oo,h.cell Oo,h.cell Oo,h.cell Oo,h.cell Oo,h.cell Oo⟩
 have g8:Hh (∀W,Cl 115 #[.agg #[.bool (qp tl 0),.bool (qp tl 1),.bool (qp tl 2),.bool (qp tl 3),.bool (qp tl 4),.bool (qp tl 5)]] W λe w'=>∃v,e=.returned v/\w'.ownsRow W.1.size 3 1 v (vrJ tl).length ((vrJ tl).map ai)/\Bl W w'):=ay λW=>qDp W;have d1:Bl wr wr.drew:=(bJ _ _).drew;have g9:=ay (KV _ (bt HB d1));obtain⟨s0,s1,s2,s3,s4,s5⟩:=c9 _ d1;obtain⟨t0,t1,t2,t3,t4,t5⟩:=c9 (wr.alloc (.cells #[.slice ao no co] 24)) (qC (bJ _ _) _);clear KV;generalize qp tl 0=m0 at *;generalize qp tl 1=m1 at *;generalize qp tl 2=m2 at *;generalize qp tl 3=m3 at *;generalize qp tl 4=m4 at *;generalize qp tl 5=m5 at *;go_upto_region 11 with fail;go_region_law (first
  |(go_simp;go_at_call 114;apply (Jd ao no co).mono;rintro e w2 ⟨rfl,rfl⟩)
  |(go_simp;go_at_call 113;apply g9.o.mono;rintro e w3 ⟨v3,rfl,h3,h4⟩;have b3:=bt (qC d1 _) h4;obtain⟨r0,r1,r2,r3,r4,r5⟩:=c9 _ b3)
  |(go_simp;go_at_call 115;apply (g8.o w3).mono;rintro e w4 ⟨v4,rfl,h5,e9⟩;have b4:=bt b3 e9)
  |(go_simp;go_at_call 112;apply (KQ.o _ _ _ (qN (by rw[List.length_mergeSort,<-a7.o];exact qB h3 e9)) (qN h5)).mono;rintro e w5 ⟨rfl,q5,rfl⟩)
  |fail)
 all_goals go_wp2_with fail
 all_goals go_ret
 all_goals exact⟨rfl,below_drewN (bt HB b4) _⟩
attribute [local go_sem] Oper.semAt_some
theorem Qw w vt{vo tl}o(h:ITs w vt tl)(ho:IS w vo o)(hl:tl.length<=1048576)(m0:o.length<=1048576)(hs:∀t∈tl,TvS t):
 Cl 62 #[vt,vo] w λe w'=>∃v us,e=.returned (.tuple #[v,ai (zK tl o)])/\RQ w' w.1.size v us (qO tl o)/\Bl w w':=by
 have HT:=ay h;have HO:=ay ho;have KA:=ay λW hW=>QD W (h.below hW) Oo hs;have KO:Hh (∀W,Bl w W->tl.length<=8->tl.all qW=true->Cl 82 #[vt,vo] W λe w'=>e=.returned (.bool (jd tl o))/\Bl W w'):=λW hW h8 ha=>VK W o (h.below hW) (ho.below hW) Oo m0 (λt ht=>aT.1 ha t ht);have O:Hh (okJ tl o=(decide (tl.length<=8)&&tl.all qW&&jd tl o)):=rfl;obtain⟨a7,ct,n8,-⟩:=h;obtain⟨ao,co,n9,-⟩:=ho;subst n8 n9;have k0:Hh (okJ tl o=false->qO tl o=[]/\zK tl o=-1):=qHr;have⟨RJ,k3⟩:=Ex (qO tl o);have⟨VJ,k4⟩:=Ex (zK tl o);change Hh _ at k3 k4;rw[<-k3,<-k4]at k0 |-;clear hs;have⟨n,hn⟩:=Ex tl.length;rw[<-hn]at hl KA KO O |-;change Hh _ at hn;have⟨no,k8⟩:=Ex o.length;rw[<-k8]at m0 KO |-;change Hh _ at k8;rw[<-hn.o]at HT;have⟨W1,b8⟩:=Ex ((((aJ w #[.slice ao no co] 24).alloc (.cells #[] 24)).alloc (.cells #[sZ (w.1.size+1) 0 0 0] 23)).alloc (.cells #[ai 0] 3));have d8:Bl w W1:=by rw[b8];exact qC (qC (qC (qC eB _) _) _) _
 have o3:Hh (W1.1.size=w.1.size+4):=ay (by rw[b8];simp);have a1:∀(W:World) (o:Obj) (k:Nat),k=W.1.size->(W.alloc o).1[k]?=some o:=λW o k hk=>by rw[hk];exact World.alloc_heap_new W o
 have a2:∀(W:World) (o o':Obj) (k:Nat),W.1[k]?=some o->(W.alloc o').1[k]?=some o:=λW o o' k hk=>(eL (qZ hk)).trans hk;have e5:Hh (Boxed W1 w.1.size 24 (.slice ao no co)):=ay (by rw[b8];exact a2 _ _ _ _ (a2 _ _ _ _ (a2 _ _ _ _ (a1 _ _ _ rfl))));have e6:Hh (Boxed W1 (w.1.size+2) 23 (sZ (w.1.size+1) 0 0 0)):=ay (by rw[b8];exact a2 _ _ _ _ (a1 _ _ _ Ss));have k9:Hh (Boxed W1 (w.1.size+3) 3 (ai 0)):=ay (by rw[b8];exact a1 _ _ _ Ss);have l0:Hh (RQ W1 w.1.size (sZ (w.1.size+1) 0 0 0) [] []):=(by
  refine⟨?_,rfl,λi hi=>by simp at hi,λi j _ hj=>by simp at hj⟩;have M:=oM (aJ w #[.slice ao no co] 24) (e:=24) (size:=1) (base:=w.1.size) #[] 0 Ss Dd rfl;rw[aM]at M;rw[b8];exact qB M (qC (qC eB _) _))
 clear a1 a2;refine(callsIn_wide (n:=0)).1 (callsIn_of_wp_marks func62 rfl trivial ?_ rfl);simp only[ntmps62,List.size_toArray,cQ,List.length_nil,Nat.reduceAdd,Nat.reduceSub,Array.replicate_succ,Array.replicate_zero,List.push_toArray,List.append_toArray,List.nil_append,List.cons_append];refine wpIn_mono ?_ npQ.imp;refine(wpIn_wide).2 ?_;go_upto_region 2 with fail;rw[<-b8];clear b8;have b9:Hh (∀W,Bl W1 W->aC W w.1.size 0 (.slice ao no co)/\aC W (w.1.size+1+1) 0 (sZ (w.1.size+1) 0 0 0)):=λW hW=>⟨Boxed.cell ((hW.block _ e5.o.lt).trans e5),Boxed.cell (t:=23) ((hW.block _ e6.o.lt).trans e6)⟩;have i0:Hh (∀W,Bl W1 W->okJ tl o=false->∃v us,Ending.returned (.tuple #[sZ (w.1.size+1) 0 0 0,ai (-1)])=.returned (.tuple #[v,ai VJ])/\RQ W w.1.size v us RJ/\Bl w W):=λW hW hy=>by
  have⟨e1,e2⟩:=k0 hy;rw[e1,e2];exact⟨_,[],rfl,l0.o.below hW,bt d8 hW⟩
 have d9:=ay (KA _ d8);by_cases h8:n<=8
 .have q8:¬((8:Int)<n):=Oo;rw[fD h8,dG]at O;cases hA:tl.all qW with
  |false=>
   rw[hA]at d9 O;have l1:Hh (okJ tl o=false):=O;clear O KO KA hA;go_wp2_with (go_at_call 81;apply d9.o.mn;intro w2 a3;have⟨k1,k2⟩:=b9 _ a3);exact⟨_,by simp[results,results62,go_sem],i0 _ a3 l1⟩
  |true=>
   rw[hA]at d9 O;rw[dG]at O;have e7:=ay ((λM W hW=>KO W (bt d8 hW) h8 M) hA);have e8:=ay hA;cases hO:jd tl o with
   |false=>
    rw[hO]at e7 O;clear KO KA hA hO e8;go_wp2_with (first|go_at_call 81;apply d9.o.mn;intro w2 a3;have⟨k1,k2⟩:=b9 _ a3|go_at_call 82;apply (e7.o _ a3).mn;intro w3 d5;have d2:=bt a3 d5;have⟨r1,r2⟩:=b9 _ d2);exact⟨_,by simp[results,results62,go_sem],i0 _ d2 O⟩
   |true=>
    rw[hO]at e7 O;clear KO KA hA k0 i0;go_upto_region 4 with (first|go_at_call 81;apply d9.o.mn;intro w2 a3;have⟨k1,k2⟩:=b9 _ a3|go_at_call 82;apply (e7.o _ a3).mono;rintro e w3 ⟨rfl,d5⟩;have d2:=bt a3 d5;have⟨r1,r2⟩:=b9 _ d2);have⟨W4,i4⟩:=Ex (w3.alloc (.cells #[ai 0,ai 0,ai 0,ai 0,ai 0,ai 0,ai 0] 122));have m2:Bl w3 W4:=by rw[i4];exact qC eB _
    have i5:W4.1[w3.1.size]?=some (.cells #[ai 0,ai 0,ai 0,ai 0,ai 0,ai 0,ai 0] 122 (0,0)):=by rw[i4];exact World.alloc_heap_new _ _
    have m3:=bt d2 m2;have⟨q1,q2⟩:=b9 _ m3;have⟨Wp,e9⟩:=Ex ((W4.alloc (.cells #[.slice a7 n ct] 33)).alloc (.cells #[.slice ao no co] 24));go_upto_region 5 with fail;rw[<-i4];clear i4;go_wp2_with (go_at_call 83;apply (UD).mono;rintro e w5 ⟨rfl,rfl⟩);rw[<-e9];have p9:=d2.size;have p7:=o3.o;have i6:Bl W4 Wp:=by rw[e9];exact qC (qC eB _) _
    have a8:=bt m3 i6
    have m5:Wp.1[W4.1.size+1]?=some (.cells #[.slice ao no co] 24 (0,0)):=by
     rw[e9];have:=World.alloc_heap_new (aJ W4 #[.slice a7 n ct] 33) (.cells #[.slice ao no co] 24);rw[aM]at this;exact this
    have hJ0:JS w.1.size w.1.size (w.1.size+1+1) (w.1.size+1+1+1) w3.1.size (.slice ao no co) (qm []) ((xj []:Nat):Int) (vG no []) (sZ (w.1.size+1) 0 0 0) [] w Wp:=by
     refine⟨(i6.block _ (qZ i5)).trans i5,(a8.block _ e6.o.lt).trans e6.o,?_,(a8.block _ k9.o.lt).trans k9.o,(a8.block _ e5.o.lt).trans e5.o,bt d8 a8,⟨_,_,rfl⟩,λi hi=>by simp[vG]at hi,Oo⟩;have M:=l0.o.below a8;refine⟨?_,rfl,λi hi=>by simp[vG]at hi,λi j _ hj=>by simp[vG]at hj⟩;exact⟨M.own.1,M.own.2.imp id λ⟨g,cap,cur,e1,e2,e3⟩=>⟨g,cap,cur,e1,by cases e1;omega,e3⟩⟩
    have p8:w.1.size+4<=Wp.1.size:=O1 a8.size
    have hh3:w3.1.size<Wp.1.size:=by have M:=qZ i5;have h2:=i6.size;omega
    have o4:no<=6:=by have M:=(xp.1 hO).length_eq;have h2:=XV tl;have h3:=k8.o;omega
    have i7:Gives Tryz.prog 116 #[.pointer (some (az W4.1.size 0)),.pointer (some (az (W4.1.size+1) 0))] (λvp=>#[vp]) (λl=>KpS (jx0 w3.1.size (w.1.size+1+1) (w.1.size+1+1+1)) λk=>k=l) (λl=>KpS (jx0 w3.1.size (w.1.size+1+1) (w.1.size+1+1+1)) λk=>k=l) (qF0 no (zM tl o)) (zM tl o) Wp:=by
     rw[k8.o];refine VF o (by rw[e9];exact(eL Ss).trans (World.alloc_heap_new _ _)) (by rw[<-k8.o];exact m5) (HT.o.below (bt d8 a8)) (HO.o.below (bt d8 a8)) (λt ht=>aT.1 e8 t ht) (YQ hO) (by rw[<-hn.o];omega) (by rw[<-k8.o];omega) hh3 Oo Oo hJ0.ty
    have l2:Hh ((∀i,qm (zM tl o) i<=10000)->RJ=vG no (zM tl o)/\VJ=(xj (zM tl o):Int)):=λM=>by rw[k3.o,k4.o,k8.o];exact qF9 O M
    have l3:Hh (∀i,i<=no->10000<qm (zM tl o) i->RJ=[]/\VJ=-1):=λi M h2=>by rw[k3.o,k4.o];exact qGA O (by rw[<-k8.o];exact M) h2
    have o5:Hh (∀q∈zM tl o,q.length<=no):=λq hq=>by rw[k8.o];exact qAm q hq
    generalize zM tl o=tot at *;clear m5 e9 i5 HT HO k3 k4 O e8 d9 e7 b9 l0 a3 d2 d5 m2 q1 q2 r1 r2 k1 k2 hO e5 e6 k9 a8 i6;obtain⟨II,c7⟩:∃II:LL->WP,II=λps W=>∃vr us,JS w.1.size w.1.size (w.1.size+1+1) (w.1.size+1+1+1) w3.1.size (.slice ao no co) (qm ps) ((xj ps:Nat):Int) (vG no ps) vr us w W/\∀i,qm ps i<=10000:=⟨_,rfl⟩;obtain⟨IX,e0⟩:∃IX:Code->WP,IX=λc W=>c=.exit 0/\(∃i,i<=no/\10000<qm tot i)/\∃vr cc,JS w.1.size w.1.size (w.1.size+1+1) (w.1.size+1+1+1) w3.1.size (.slice ao no co) cc (-1) [] vr [] w W:=⟨_,rfl⟩;have f7:w.1.size<=Wp.1.size:=Oo;refine(wpIn_wide (n:=0)).1 ?_;refine QB (α:=LI) (β:=Value) (gf:=116) (lb:=#[.pointer (some (az W4.1.size 0)),.pointer (some (az (W4.1.size+1) 0))]) rfl (enters_of func116 Kl rfl) i7 (λ_=>rfl)
     (λM h2=>KpS.trans M h2) (λl W o o' M h2 h3=>KpS.put rfl h2 h3 (by show w.1.size+1+1≠l;omega)) (λM h2 h3=>(KpS.trans M h2).trans h3)
     II IX
     (λs X Y hX hk=>by rw[c7]at hX |-;have⟨vr,us,M,h2⟩:=hX;exact⟨vr,us,M.kt hk f7,h2⟩)
     (λc X Y hX hk=>by rw[e0]at hX |-;have⟨h0,M,vr,cc,h2⟩:=hX;exact⟨h0,M,vr,cc,h2.kt hk f7⟩)
     (by rw[c7];exact⟨_,_,hJ0,λi=>by show(0:Nat)<=_;omega⟩)
     (λl pre x b a' W=>∃X vr us,JS w.1.size w.1.size (w.1.size+1+1) (w.1.size+1+1+1) w3.1.size (.slice ao no co) (qm pre) ((xj pre:Nat):Int) (vG no pre) vr us w X/\(∀i,qm pre i<=10000)/\KT Wp.1.size X W/\W.ownsRow X.1.size 3 1 b x.length (x.map ai)/\x.length<=no/\(∃g c,b=sZ g 0 x.length c)/\pre++[x] <+:tot/\a'={ tmps:=#[.slice a7 n ct,.slice ao no co,undef,.pointer (some (az w.1.size 0)),sn,ai 0,.pointer (some (az (w.1.size+1+1) 0)),.pointer (some (az (w.1.size+1+1+1) 0)),.pointer (some (az w3.1.size 0)),b,undef,sZ (w.1.size+1) 0 0 0,.slice a7 n ct,ai n,.bool false,.bool false,.slice a7 n ct,.bool true,.bool false,.bool false,.bool false,.slice a7 n ct,.slice ao no co,.bool true,.bool false,.bool false,undef,.slice a7 n ct,.slice ao no co,.func (.func 116) #[] #[.pointer (some (az W4.1.size 0)),.pointer (some (az (W4.1.size+1) 0))],b,undef,undef,undef,undef,undef,undef,undef,undef,undef,undef,undef,undef,undef,undef,undef,undef,undef,undef,undef,undef,undef,undef,undef,undef,undef,undef],defers:=[] })
     (λl pre x b a' W o o' ⟨X,vr,us,M,h2,h3,h4,h5⟩ i8 h6 h7=>⟨X,vr,us,M,h2,h3.trans (KT.put (B:=Wp.1.size) o' i8 h6 h7),qD h4 λg hg=>by
      have⟨cur,hc⟩:=qK h4 hg;exact(KT.put _ i8 h6 h7).cel g _ _ _ hc Dd Dd,h5⟩)
     ?assign ?body ?done ?stop
    case assign=>
     rintro l pre x b X Y K i8 hI hk ⟨ho,l4,⟨g,c,rfl⟩,c8⟩ ⟨rr,o6⟩ hK;rw[c7]at hI;have⟨vr,us,M,h2⟩:=hI;gi_wp2
     exact hK _ _ (KeepsFrom.refl _ _) (KpS.refl _ _ _) ⟨X,vr,us,M,h2,hk,ho,l4,⟨g,c,rfl⟩,c8,rfl⟩
    case body=>
     rintro l pre x b a' W i8 ⟨rr,o6⟩ ⟨X,vr,us,jX,f8,hk,i9,l4,⟨g,c,rfl⟩,c8,rfl⟩;have jW:=jX.kt hk f7;have m6:x.length<7:=Oo;have o7:=(i9.lt g rfl).1;have o8:=jX.vb.lt;have j1:g≠w.1.size+1+1+1:=Oo;have⟨iS,hj,m7,m8,m9⟩:=aX Tryz.infoIS;have o9:=jX.ob.lt;have f9:=jW.held m6 (qm pre x.length+1);rw[show((qm pre x.length+1:Nat):Int)=(qm pre x.length:Int)+1 by omega]at f9;have⟨a6,ka⟩:=f9;have q0:=f8 x.length;have ja:JS w.1.size w.1.size (w.1.size+1+1) (w.1.size+1+1+1) w3.1.size (.slice ao no co) (qm (pre++[x])) ((xj pre:Nat):Int) (vG no pre) vr us w (sC W w3.1.size x.length (ai ((qm pre x.length:Int)+1))):=⟨a6.hb.congr λi _=>by
      rw[Zq];by_cases e:i=x.length;rw[fE e.symm,fE e,e];rw[fF (λh=>e h.symm),fF e];rfl,a6.rb,a6.rq,a6.vb,a6.ob,a6.bel,a6.sh,a6.ap,a6.low⟩
     have a4:Hh (∀W' d3 l5,qm pre x.length+1<=10000->JS w.1.size w.1.size (w.1.size+1+1) (w.1.size+1+1+1) w3.1.size (.slice ao no co) (qm (pre++[x])) ((xj (pre++[x]):Nat):Int) (vG no (pre++[x])) d3 l5 w W'->KpS (jx0 w3.1.size (w.1.size+1+1) (w.1.size+1+1+1)) (λ_=>False) W W'->KeepsFrom Wp.1.size W W'/\KpS (jx0 w3.1.size (w.1.size+1+1) (w.1.size+1+1+1)) (λk=>k=l) W W'/\II (pre++[x]) W'):=λW' d3 l5 M h2 h3=>by
      refine⟨h3.keepsF jW.ty hh3 Oo Oo,h3.sub λ_ h=>h.elim,?_⟩;rw[c7];refine⟨d3,l5,h2,λi=>?_⟩;rw[Zq];by_cases e:x.length=i;rw[fE e,<-e];exact M;rw[fF e];exact f8 i
     have a9:Hh (∀W' d3 cc,10000<qm pre x.length+1->JS w.1.size w.1.size (w.1.size+1+1) (w.1.size+1+1+1) w3.1.size (.slice ao no co) cc (-1) [] d3 [] w W'->KpS (jx0 w3.1.size (w.1.size+1+1) (w.1.size+1+1+1)) (λ_=>False) W W'->KeepsFrom Wp.1.size W W'/\KpS (jx0 w3.1.size (w.1.size+1+1) (w.1.size+1+1+1)) (λk=>k=l) W W'/\IX (.exit 0) W'):=λW' d3 cc M h2 h3=>by
      refine⟨h3.keepsF jW.ty hh3 Oo Oo,h3.sub λ_ h=>h.elim,?_⟩;rw[e0];refine⟨rfl,⟨x.length,l4,?_⟩,d3,cc,h2⟩;have h4:=qF7 c8 x.length;rw[Zq,fE rfl]at h4;omega
     have e4:Hh ((sC W w3.1.size x.length (ai ((qm pre x.length:Int)+1))).ownsRow (w.1.size+1) 3 1 (sZ g 0 x.length c) x.length (x.map ai)):=(qD (qE i9 Oo) λq hq=>eG λe=>by
      have e2:q=w3.1.size:=e;have:g=q:=by simpa[Value.ownBlock]using hq
      exact (λe=>own_ne i9 ⟨_,jW.hb⟩ Dd (by rw[e];rfl)) (this.trans e2))
     have l6:Hh (∀i,i<(vG no pre).length->∀q,(us.getD i undef).ownBlock=some q->(sZ g 0 x.length c).ownBlock≠some q):=λi hi q hq e=>by
      have M:=((jX.rq.each i hi).lt q hq).2;have:g=q:=by simpa[Value.ownBlock]using e
      omega
     have q5:xj pre<=60000:=by
      have M:=qHl (λq hq=>o5 q (c8.subset (dW _ hq))) f8;have h2:no*10000<=6*10000:=Nat.mul_le_mul_right _ o4;omega
     have g4:=ay (qEr pre x);have g5:=ay (qEs no pre x);have q6:(vG no pre).length<=10000:=by rw[qF6];exact f8 no
     change Hh _ at ja ka;have c1:=jW.hb.cell m6;have f1:=jW.hb.free x.length;have n1:=yQ jW.rb jW.hb Dd;have n2:=yQ jW.vb jW.hb Dd;have n3:=yQ jW.ob jW.hb Dd;have x7:(x.length:Int)<7:=Oo;clear a6 i9 o7 o8 o9 jX f8 hk c8 c7 e0 i7;generalize xj pre=vn,qm pre x.length=cn at *;have hsz:(sC W w3.1.size x.length (ai ((cn:Int)+1))).1.size=W.1.size:=by simp[World.setCell]
     have r1:=ja.o.rb.cell;have r2:=ja.o.rb.frozen;have v1:=ja.o.vb.cell;have v2:=ja.o.vb.frozen;have o1:=ja.o.ob.cell;have q7:=jW.ob.lt;have p1:=jW.rb.cell;have p2:=jW.vb.cell;have p3:=jW.ob.cell;have p4:=jW.rb.frozen;have p5:=jW.vb.frozen;by_cases n5:10000<cn+1
     .have b1:(10000:Int)<cn+1:=Oo;have⟨jr,kr⟩:=ja.o.reset;rw[hsz]at jr kr;have⟨jv,kv⟩:=jr.vis (-1);have HX:=ay (a9 _ _ _ n5 jv ((ka.o.trans kr).trans kv));have q1:=(ja.o.rb.alloc (.cells #[] 24)).cell;have q2:=(ja.o.rb.alloc (.cells #[] 24)).frozen;have q3:=jr.vb.cell;have q4:=jr.vb.frozen;clear jr kr jv kv a4 a9 e4 l6 g4 g5 ja ka;gi_wp2
      exact HX
     have b1:¬((10000:Int)<cn+1):=Oo;have n6:=ay j1;have j4:Hh ((sZ g 0 x.length c).ownBlock≠some (w.1.size+1+1+1)):=λe=>j1 (by simpa[Value.ownBlock]using e);by_cases d6:0<x.length
     .have i1:(0:Int)<(x.length:Int):=Oo;by_cases d0:x.length=no
      .subst d0;have⟨jv,kv⟩:=ja.o.vis (vn+1);have d7:((sC W w3.1.size x.length (ai ((cn:Int)+1))).setCell (az (w.1.size+1+1+1) 0) (ai ((vn:Int)+1))).1.size=W.1.size:=by simp[World.setCell]
       have j5:=ay (qD e4 λq hq=>bD (sC W w3.1.size x.length (ai (cn+1))) (az (w.1.size+1+1+1) 0) (ai (vn+1)) _ λe=>n6 (by have:=(by simpa[Value.ownBlock]using hq);exact this.trans e));have t1:=jv.rb.cell;have t2:=jv.rb.frozen;have t3:=jv.ob.cell;have a5:((xj (pre++[x]):Nat):Int)=(vn:Int)+1:=by rw[g4.o,fE d6];omega
       have V:=g5.o;rw[fE rfl]at V;have g7:=ay jv;have l7:=ay (ka.o.trans kv);have g8:=ay d7;have l8:=ay a5;have g9:=ay V;clear a5 V hsz d7 jv kv;gi_wp2_with (first
        |(gi_at_builtin;refine uG rfl 23 rfl (w.1.size+1) 24 iS sn 1 24 underlying23 hj m7 m8 m9 rfl Dd vr us rfl (g7.o.rq.own.alloc _) (az W.1.size 0) 1 1 [sZ g 0 x.length c] rfl rfl (by rw[<-g8.o];exact qH _ _ _) (λu hu=>by simp at hu;subst hu;rfl) Dd Um Oo (by rw[aM,g8.o];omega) ?_;intro g6 p6 w6 d4 b7 h9;have⟨r6,j6,k6⟩:=g7.o.push j5 l6 j4 d4 b7 h9;have u1:=r6.cell;have u2:=r6.frozen)
        |gi_in)
       exact a4.o _ _ _ Oo (by rw[l8.o,g9.o];exact j6) (l7.o.trans k6)
      have i2:¬((x.length:Int)=(no:Int)):=Oo;have⟨jv,kv⟩:=ja.o.vis (vn+1);have d7:((sC W w3.1.size x.length (ai ((cn:Int)+1))).setCell (az (w.1.size+1+1+1) 0) (ai ((vn:Int)+1))).1.size=W.1.size:=by simp[World.setCell]
      have j5:=ay (qD e4 λq hq=>bD (sC W w3.1.size x.length (ai (cn+1))) (az (w.1.size+1+1+1) 0) (ai (vn+1)) _ λe=>n6 (by have:=(by simpa[Value.ownBlock]using hq);exact this.trans e));have t1:=jv.rb.cell;have t2:=jv.rb.frozen;have t3:=jv.ob.cell;have a5:((xj (pre++[x]):Nat):Int)=(vn:Int)+1:=by rw[g4.o,fE d6];omega
      have V:=g5.o;rw[fF d0,dU]at V;have HF:=ay (a4.o _ _ _ Oo (by rw[a5,V];exact jv) (ka.o.trans kv));clear a5 V hsz d7 jv kv a4 a9 ja ka e4;gi_wp2
      exact HF
     have i1:¬((0:Int)<(x.length:Int)):=Oo;by_cases d0:x.length=no
     .subst d0;have t1:=ja.o.rb.cell;have t2:=ja.o.rb.frozen;have t3:=ja.o.ob.cell;have a5:((xj (pre++[x]):Nat):Int)=(vn:Int):=by rw[g4.o,fF d6];omega
      have V:=g5.o;rw[fE rfl]at V;have g7:=ay ja.o;have g8:=ay hsz;have l8:=ay a5;have g9:=ay V;clear a5 V hsz;gi_wp2_with (first
       |(gi_at_builtin;refine uG rfl 23 rfl (w.1.size+1) 24 iS sn 1 24 underlying23 hj m7 m8 m9 rfl Dd vr us rfl (g7.o.rq.own.alloc _) (az W.1.size 0) 1 1 [sZ g 0 x.length c] rfl rfl (by rw[<-g8.o];exact qH _ _ _) (λu hu=>by simp at hu;subst hu;rfl) Dd Um Oo (by rw[aM,g8.o];omega) ?_;intro g6 p6 w6 d4 b7 h9;have⟨r6,j6,k6⟩:=g7.o.push e4 l6 j4 d4 b7 h9;have u1:=r6.cell;have u2:=r6.frozen)
       |gi_in)
      exact a4.o _ _ _ Oo (by rw[l8.o,g9.o];exact j6) ((ay ka.o).o.trans k6)
     have i2:¬((x.length:Int)=(no:Int)):=Oo;have t1:=ja.o.rb.cell;have t2:=ja.o.rb.frozen;have t3:=ja.o.ob.cell;have a5:((xj (pre++[x]):Nat):Int)=(vn:Int):=by rw[g4.o,fF d6];omega
     have V:=g5.o;rw[fF d0,dU]at V;have HF:=ay (a4.o _ _ _ Oo (by rw[a5,V];exact ja) ka.o);clear a5 V hsz a4 a9 ja ka e4;gi_wp2
     exact HF
    case done=>
     intro D W hD hI hK;rw[c7]at hI;have⟨vr,us,j,hc⟩:=hI;have⟨e1,e2⟩:=l2 hc;have HF:Hh (∃v us,Ending.returned (.tuple #[vr,ai ((xj tot:Nat):Int)])=.returned (.tuple #[v,ai VJ])/\RQ (W.drew.putObj D (.deferred none)) w.1.size v us RJ/\Bl w (W.drew.putObj D (.deferred none))):=(by
      have hp:=(KT.of_below eB.drew eA:KT _ W _);have l9:=KT.put (X:=W.drew) (B:=w.1.size) (.deferred none) Oo hK rfl;rw[e1,e2];have j2:=(j.kt hp (O1 j.ob.lt)).kt l9 eA;exact⟨vr,us,rfl,j2.rq.base (Nat.le_succ _),j2.bel⟩)
     have c1:=j.rb.cell;have c2:=j.vb.cell;clear e1 e2 hc j l2 l3 c7 e0 i7;generalize xj tot=vt at *;simp only[Exit.inBlock,Exit.then];go_upto_region 15 with fail;have n7:Tryz.prog.follows .mixedOrders=true:=Kl;go_region_law fail
     all_goals go_wp2_with fail
     all_goals exact⟨Ss,.inl ⟨D,_,rfl,run_takeDeferred hK,_,by simp[results,results62,go_sem],HF⟩⟩
    case stop=>
     intro D c W hD hI hK;rw[e0]at hI;obtain⟨rfl,⟨i,M,h2⟩,vr,cc,j⟩:=hI;have⟨e1,e2⟩:=l3 i M h2;have HF:Hh (∃v us,Ending.returned (.tuple #[vr,ai (-1)])=.returned (.tuple #[v,ai VJ])/\RQ (W.drew.putObj D (.deferred none)) w.1.size v us RJ/\Bl w (W.drew.putObj D (.deferred none))):=(by
      rw[e1,e2];have j2:=(j.kt (KT.of_below eB.drew eA:KT _ W _) (O1 j.ob.lt)).kt (KT.put (X:=W.drew) (B:=w.1.size) (.deferred none) Oo hK rfl) eA;exact⟨vr,[],rfl,j2.rq.base (Nat.le_succ _),j2.bel⟩)
     have c1:=j.rb.cell;have c2:=j.vb.cell;clear e1 e2 j l2 l3 c7 e0 i7;gi_wp2
     go_upto_region 15 with fail;have n7:Tryz.prog.follows .mixedOrders=true:=Kl;go_region_law fail
     all_goals go_wp2_with fail
     all_goals exact⟨Ss,.inl ⟨D,_,rfl,run_takeDeferred hK,_,by simp[results,results62,go_sem],HF⟩⟩
 have q8:(8:Int)<n:=Oo;have l1:Hh (okJ tl o=false):=(by rw[O.o,fC h8];rfl);have⟨k1,k2⟩:=b9 _ eB;clear O KO KA;go_wp2_with fail;exact⟨_,by simp[results,results62,go_sem],i0 _ eB l1⟩
theorem qId{b}:(plc (λi=>decide (vs.getD i 0∈b)) vs.length).length=(shr vs b).length:=by
 have h:=congrArg List.length (jt vs b);unfold atP at h;rw[lM]at h;exact h
theorem qG9{p k}:∀x∈plc p k,0<=x/\x<(k:Int):=λx I=>by
 obtain⟨i,K,-,rfl⟩:=y7.1 I;omega
theorem qIe(h:qW t=true)b:YY t.vs t.rows t.ws (shr t.vs b)=true:=by
 have K:=(qL h).1;unfold YY;rw[bV,bV];exact⟨⟨h,qCX (Z9 (xK K)) λx I=>XM K (zu I)⟩,aT.2 λx I=>fD (zu I)⟩
theorem TQ.tw{v0 v1 v2 us ws rows}(h:TQ W B v0 v1 v2 us vs rows ws):TW W B v0 v1 v2 us vs rows ws:=⟨h.o0,h.rq,h.o2,h.a02,h.a0,h.a2⟩
theorem ZT(h:qW t=true):TvS t:=by
 have⟨K,O,M⟩:=qL h;have V:=xz K;have h5:t.ws.length=t.rows.length:=by
  have I:ql t.vs t.rows t.ws=true:=h;unfold ql at I;rw[bV,dE]at I;exact I.2
 refine⟨Oo,⟨Oo,λj=>?_⟩,Oo⟩;rw[gD];cases e:t.rows[j]? with
 |none=>exact eC
 |some r=>have:=M r (List.mem_of_getElem? e);show r.length<=_;omega
theorem x8{A X}(h:Bl A X)o:Bl A (X.alloc o):=h.alloc h.size o
theorem Vj w{vb vt b tl}(hb:IS w vb b)(h:ITs w vt tl)(i3:qb b=true)(hl:tl.length<=7)(e7:∀t∈tl,qW t=true):
 Cl 85 #[vb,vt] w λe w'=>∃x0 x1 x2 us,e=.returned (.tuple #[.agg #[x0,x1,x2],ai (bgV tl b)])/\TW w' w.1.size x0 x1 x2 us b (bgR tl b) (zJ (bgR tl b).length)/\Bl w w':=by
 obtain⟨iT,hj,l3,l4,l5⟩:=info_parts Tryz.infoTb;have n5:Tryz.prog.follows .mixedOrders=true:=Kl;have l6:=xz i3;have c8:∀W:World,Bl W W.drew:=λW=>(bJ _ _).drew;obtain⟨W1,c9⟩:=Ex (w.alloc (.cells #[sn,sn,sn] 58));have d1:Hh (Bl w W1):=ay (by rw[c9];exact(bJ _ _).alloc (nR _) _);have i4:Hh (TX W1 w.1.size sn sn sn):=ay (by rw[c9];exact TX.made _ _ _ _);have d2:Hh (∀W,Bl W1 W->IS W vb b):=ay λW K=>hb.below (bt d1 K);have KJ:Hh (∀W v I,Bl W1 W->TBs W W1.1.size v I->I.map tvB=yZ tl b->Cl 62 #[v,vb] W λe w'=>∃v us,e=.returned (.tuple #[v,ai (bgV tl b)])/\RQ w' W.1.size v us (bgR tl b)/\Bl W w'):=ay λW v I K hT he=>by
  refine Qw W v b (by rw[<-he];exact hT.its) (d2.o W K) (bM (J5 b) Oo) Oo λt ht=>?_;obtain⟨s,hs,rfl⟩:=cC.1 ht;exact ZT (qHB (e7 s (cK.1 hs).1) b)
 have i5:=ay λW v n K hv hn=>yR W _ v b n (d2 W K) hv Oo hn;obtain⟨l7,ct,rfl,hc⟩:=h;have HC:Hh (∀W,Bl W1 W->∀j,j<tl.length->∃b oo,l7=some (az b oo)/\TabAt W b (oo+j*3) (tl.getD j qA)):=ay λW K j hj=>by
  rcases hc with h0|⟨b,oo,rfl,h⟩;omega;exact⟨b,oo,rfl,(h j hj).below (bt d1 K)⟩
 have e9:Hh (∀j,j<tl.length->qW (tl.getD j qA)=true):=ay λj hj=>e7 _ (by rw[gD,gE hj];exact gM _);have f7:Hh (∀j,j<tl.length->yZ (tl.take (j+1)) b=yZ (tl.take j) b++(if hasB b (tl.getD j qA) then [prT b (tl.getD j qA)] else [])):=ay λj hj=>qEI hj;have i6:Hh (∀j,(yZ (tl.take j) b).length<=j):=ay λj=>bM (J5 _) (by rw[bZ];omega);have i7:Hh (yZ (tl.take 0) b=[]):=ay rfl;have f8:Hh (yZ (tl.take tl.length) b=yZ tl b):=ay (by rw[tL]);have l8:Hh ((bgR tl b).length<=10000):=ay y8.1;obtain⟨n,hn⟩:=Ex tl.length;rw[<-hn]at hl HC e9 f7 f8 |-;clear hn hc e7;obtain⟨ab,cb,rfl,-⟩:=hb;obtain⟨nb,f9⟩:=Ex b.length;have i8:=ay f9;rw[<-f9]at KJ i5 d2 l6 |-;clear f9 i3;generalize bgV tl b=BV at *;generalize hBR:bgR tl b=BR at *;clear hBR;go_enter func85,ntmps85;go_upto_region 1 with fail;rw[<-c9];clear c9;go_wp2;go_loopw [6,14] (λu t wr=>∃(j:Nat) (vp:Value),j<=n/\t=ai j/\vp=u/\Hh (∃I,Bl W1 wr/\TBs wr W1.1.size vp I/\I.map tvB=yZ (tl.take j) b)) (λ_ t _=>n-(intOf t).toNat);exact⟨0,_,nZ _,rfl,rfl,ay ⟨[],bJ _ _,⟨oN _ _ _ _,λt ht=>by simp at ht,List.Pairwise.nil⟩,by rw[i7.o];rfl⟩⟩;obtain⟨j,vp,n7,rfl,rfl,HT⟩:=hrel;obtain⟨I,hB,hT,hE⟩:=HT.o;have HB:=ay hB;have a3:=ay hT;have HE:=ay hE;clear HT hB hT hE;by_cases g4:j<n
 .have i1:=aV g4;obtain⟨bb,oo,ea,v0,v1,v2,c0,c1,c2,hI⟩:=HC _ HB j g4;subst ea;have a5:=ay (f7 j g4);have a9:=e9 j g4;generalize tl.getD j qA=tb at *;have b7:=ay a9;obtain⟨W3,d3⟩:=Ex (wr.alloc (.cells #[v0,v1,v2] 58));have g5:Bl wr W3:=by rw[d3];exact(bJ _ _).alloc (nR _) _
  have i9:Hh (TX W3 wr.1.size v0 v1 v2):=ay (by rw[d3];exact TX.made _ _ _ _);have d4:=ay (hI.below g5);have g6:=ay g5;obtain⟨a0,k0,e0,-⟩:=hI.vs;obtain⟨a1,k1,e1,-⟩:=hI.rows;obtain⟨a2,k2,e2,-⟩:=hI.ws;subst e0 e1 e2;have h6:=xz (qL a9).1;have l9:=(qL a9).2.1;have b8:=ay (by
   have:=zq _ _ _ _ b d4.o.vs (d2 _ (bt HB g6)) Oo (by rw[<-i8.o];omega);rw[qId]at this;exact this)
  have KV:Hh (∀W v,Bl W3 W->IS W v (plc (λi=>decide (tb.vs.getD i 0∈b)) tb.vs.length)->Cl 91 #[.slice a0 tb.vs.length k0,v] W λe w'=>∃v,e=.returned v/\w'.ownsRow W.1.size 3 1 v (shr tb.vs b).length ((shr tb.vs b).map ai)/\Bl W w'):=ay λW v K hv=>by
   have:=xZ W _ v _ _ (d4.o.below K).vs hv (bM (xq _ _) Oo) qG9;rw[jt]at this;exact this
  have j0:Hh (∀W v,Bl W3 W->IS W v (shr tb.vs b)->Cl 122 #[.agg #[.slice a0 tb.vs.length k0,.slice a1 tb.rows.length k1,.slice a2 tb.ws.length k2],v] W λe w'=>∃x0 x1 x2 us,e=.returned (.agg #[x0,x1,x2])/\TQ w' W.1.size x0 x1 x2 us (shr tb.vs b) (prR b tb) (zJ (prR b tb).length)/\Bl W w'):=ay λW v K hv=>by
   have hS:=ZT b7;have:=UM W v (d4.o.below K) hv (bM (j7 _ _) hS.vs) hS.vs hS.rows;apply this.mono;rintro e w' ⟨x0,x1,x2,us,rfl,h1,h2⟩;rw[fE (qIe b7.o b)]at h1;exact⟨x0,x1,x2,us,rfl,h1,h2⟩
  have m3:(shr tb.vs b).length<=6:=bM (j7 _ _) h6;have j1:hasB b tb=decide (0<(shr tb.vs b).length):=rfl;rw[j1]at a5;clear j1 hI a9 h6 l9 b7 d4 g5;obtain⟨ns,g8⟩:=Ex ((shr tb.vs b).length);have m4:=ay g8;rw[<-g8]at b8 KV a5 m3;clear g8;obtain⟨tv,g9⟩:=Ex (prT b tb);have m5:=ay g9;rw[<-g9]at a5;clear g9;generalize hpp:plc (λi=>decide (tb.vs.getD i 0∈b)) tb.vs.length=PP at *;clear hpp;generalize tb.vs.length=l0,tb.rows.length=l1,tb.ws.length=l2 at *;go_upto_region 5 with fail;rw[<-d3];clear d3 c0 c1 c2;have d0:=i9.o.c0;by_cases j2:0<ns
  .have i2:=aV j2;rw[fD j2,fE rfl]at a5;go_upto_region 7 with (go_at_call 121;apply b8.o.mono;rintro e W4 ⟨v4,rfl,a6,a7⟩;obtain⟨a4,k4,e4⟩:=qG a6;subst e4);have d5:=ay (i9.o.below a7);have V:=ay (bt g6 a7);have m6:=ay (by
    have h1:=a6.1;rw[lM]at h1;exact qN (by rw[show PP.length=ns by omega];exact a6))
   have e3:=ay a7;clear a6 a7 b8 d0;have j3:Hh (∀W,Bl W4 W->aC W wr.1.size 0 (.slice a0 l0 k0)/\aC W wr.1.size 1 (.slice a1 l1 k1)/\aC W wr.1.size 2 (.slice a2 l2 k2)):=ay λW K=>⟨(d5.o.below K).c0,(d5.o.below K).c1,(d5.o.below K).c2⟩;obtain⟨s0,s1,s2⟩:=j3 _ (c8 _);have m7:=ay (KV _ _ (bt e3 (c8 _)) (m6.o.below (c8 _)));have hs4:=bM HB.o.size V.o.size;have n6:I.length<=7:=by have h1:=congrArg List.length HE;rw[lM]at h1;have h2:=i6 j;omega
   have h3:Hh (∀W,Bl W4 W->W.ownsRow W1.1.size 58 3 vp I.length (I.flatMap tcs)):=ay λW K=>qB a3.o.own (bt V K);have j4:Hh (∀W v,Bl W4 W->W.ownsRow W4.drew.1.size 3 1 v ns ((shr tb.vs b).map ai)->Cl 122 #[.agg #[.slice a0 l0 k0,.slice a1 l1 k1,.slice a2 l2 k2],v] W λe w'=>∃(q0:OA) (m0 z0:Nat) (q1:OA) (m1 z1:Nat) (q2:OA) (m2 z2:Nat) (us:LV),e=.returned (.agg #[.slice q0 m0 z0,.slice q1 m1 z1,.slice q2 m2 z2])/\TWr w' wr.1.size ⟨.slice q0 m0 z0,.slice q1 m1 z1,.slice q2 m2 z2,us,tv.vs,tv.rows,tv.ws⟩/\Bl W4 w'):=ay λW v K hv=>by
    apply (j0.o W v (bt e3.o K) (qN (by rw[<-m4.o];exact hv))).mono;rintro e w' ⟨x0,x1,x2,us,rfl,hT,hb'⟩;obtain⟨q0,z0,e0⟩:=qG hT.o0;obtain⟨q1,z1,e1⟩:=qG hT.rq.own;obtain⟨q2,z2,e2⟩:=qG hT.o2;subst e0 e1 e2;exact⟨_,_,_,_,_,_,_,_,_,us,rfl,by rw[m5.o];exact hT.tw.base (bM V.o.size K.size),bt K hb'⟩
   clear KV j0 d5;go_region_law (first
    |(refine step_append_lies _ Fl _ _ _ Fl W1.1.size 58 iT (.agg #[sn,sn,sn]) 3 72 underlying33 hj l3 l4 l5 rfl Dd vp I.length _ Fl ((h3.o _ b1).alloc _) (az w6.1.size 0) 1 1 [.slice q0 m0 z0,.slice q1 m1 z1,.slice q2 m2 z2] Fl Fl (uT _ _ _ _ _) (λu hu=>by simp at hu;rcases hu with rfl|rfl|rfl <;> rfl) Dd Um Oo (by have:=b1.size;simp;omega) _ rfl ?_;intro g7 m8 w7 b9 O j5 h4)
    |(go_simp;go_at_call 91;apply m7.o.mono;rintro e w5 ⟨v5,rfl,m9,j6⟩;have k3:=bt (c8 _) j6;obtain⟨r0,r1,r2⟩:=j3 _ k3)
    |(go_simp;go_at_call 122;apply (j4.o _ _ k3 m9).mono;rintro e w6 ⟨q0,m0,z0,q1,m1,z1,q2,m2,z2,n3,rfl,k5,b1⟩)
    |fail)
   all_goals(
    have HN:Hh (∃e5,Bl W1 w7/\TBs w7 W1.1.size (sZ g7 0 (I.length+1) m8) e5/\e5.map tvB=yZ (tl.take (j+1)) b):=ay ⟨_,(x8 (bt HB (bt V b1)) _).grown O (by have:=b1.size;simp;omega) (λq hq=>((h3 _ b1).lt q hq).1),a3.o.row HB.o.size w6 ⟨.slice q0 m0 z0,.slice q1 m1 z1,.slice q2 m2 z2,n3,tv.vs,tv.rows,tv.ws⟩ _ w7 _ (bt V b1) k5 O b9,by rw[mA,HE.o,a5.o];rfl⟩)
   all_goals clear HB a3 HE h3 b9 O j5 h4 k5
   all_goals try simp only[Exit.inBlock,Exit.then]
   all_goals go_wp2_with fail
   all_goals go_roundw
   all_goals first
    |exact⟨j+1,_,Oo,Gg,rfl,HN⟩
    |(simp[intOf];omega)
  obtain rfl:ns=0:=Oo;rw[show decide (0<0)=false from rfl,fF Dd,dU]at a5;go_wp2_with (go_at_call 121;apply b8.o.mono;rintro e W4 ⟨v4,rfl,a6,a7⟩;obtain⟨a4,k4,e4⟩:=qG a6;subst e4;have V:=ay (bt g6 a7);clear a6 a7 b8 d0);go_roundw;exact⟨j+1,_,Oo,Gg,rfl,ay ⟨I,bt HB V,a3.o.below V,by rw[a5.o];exact HE⟩⟩;exact Im
 obtain rfl:j=n:=Oo;have i1:=aY j;have k6:=ay (KJ _ _ I HB a3 (HE.o.trans f8));have HX:=ay (i4.o.below HB);obtain⟨av,cv,ev⟩:=qG a3.o.own;subst ev;clear KJ a3 HE HC e9 f7 i6 f8 i7 i4;go_upto_region 10 with (go_at_call 62;apply k6.o.mono;rintro e w8 ⟨v8,h5,rfl,h7,d6⟩;obtain⟨a8,k8,e8⟩:=h7.sl;subst e8);have c7:=ay h7;have k7:=ay (HX.o.below d6);have h8:=ay (bt HB d6);have n8:=h8.o.size;have k9:=d6.size;have hs1:=bM d1.o.size HB.o.size;clear h7 d6 k6 HX;have h9:=ay (i5 _ (.slice a8 BR.length k8) _ h8 ⟨_,_,rfl⟩ (O1 l8.o));obtain⟨nr,i0⟩:=Ex BR.length;have n4:=ay i0;rw[<-i0]at h9 c7 |-;clear i0;go_wp2_with (go_at_call 86;apply h9.o.mono;rintro e w9 ⟨v0,v2,rfl,d7,d8,hap,d9⟩;obtain⟨q0,z0,e0⟩:=qG d7;obtain⟨q2,z2,e2⟩:=qG d8;subst e0 e2;have M:=k7.o.below d9;have t0:=M.c0;have t1:=M.c1;have t2:=M.c2;have f0:=M.free 0;have f1:=M.free 1;have f2:=M.free 2);have e6:Hh (∀y0 y1 y2,TW (((sC w9 w.1.size 0 y0).setCell (az w.1.size 1) y1).setCell (az w.1.size 2) y2) w.1.size (.slice q0 nb z0) (.slice a8 nr k8) (.slice q2 nr z2) h5 b BR (zJ BR.length)/\Bl w (((sC w9 w.1.size 0 y0).setCell (az w.1.size 1) y1).setCell (az w.1.size 2) y2)):=ay λy0 y1 y2=>by
  have hT:TQ w9 w.1.size (.slice q0 nb z0) (.slice a8 nr k8) (.slice q2 nr z2) h5 b BR (zJ BR.length):=by
   refine⟨?_,(c7.o.below d9).base hs1,?_,hap,λi hi g h1 h2=>?_,λi hi g h1 h2=>?_⟩;rw[<-i8.o];exact qE d7 (bM hs1 k9);rw[uv,Zz,<-n4.o];exact qE d8 (bM hs1 k9);have:=((c7.o.each i hi).lt g h1).2;have:=(d7.lt g h2).1;omega;have:=((c7.o.each i hi).lt g h1).2;have:=(d8.lt g h2).1;omega
  exact⟨(((hT.set M.typ).set (qU M.typ)).set (qU (qU M.typ))).tw,(((bt (bt d1 h8) d9).setCell (nR _) _).setCell (nR _) _).setCell (nR _) _⟩
 clear k7 c7 d7 d8 M h9 d9;refine bodyPost_ret (v:=.tuple #[.agg #[.slice q0 nb z0,.slice a8 nr k8,.slice q2 nr z2],ai BV]) (by simp[results,results85,go_sem,t0,t1,t2]) rfl ?_;exact⟨_,_,_,h5,rfl,(e6 _ _ _).1,(e6 _ _ _).2⟩
structure WoS(w W:World)(B:Nat)(v:Value)(rl:List TbC):Prop where
 own:W.ownsRow B 58 3 v rl.length (rl.flatMap tcc)
 el:∀r∈rl,ITc w r
theorem WoS.its{v rl}(h:WoS w W B v rl)(hb:Bl w W):ITs W v (rl.map TbC.t):=by
 have⟨a,cap,e,K⟩:=qEC _ (λ_=>rfl) qFs h.own;refine⟨a,cap,by rw[lM];exact e,?_⟩;rcases K with M|⟨g,O,-,K⟩;exact .inl (by rw[lM];exact M);refine .inr ⟨g,0,O,λj I=>?_⟩;rw[lM]at I;have eg:(rl.map TbC.t).getD j qA=(rl.getD j qFs).t:=by
  rw[gD,gD,bK,gE I];rfl
 rw[eg,cU];exact⟨_,_,_,K j 0 I Oo,K j 1 I Oo,K j 2 I Oo,(h.el _ (qz I)).below hb⟩
theorem WoS.push{w3 g c v rl r}(h:WoS w W B v rl)(K:ITc w r)(I:w3.ownsRow B 58 3 (sZ g 0 (rl.length+1) c) (rl.length+1) (rl.flatMap tcc++[r.v0,r.v1,r.v2])):
 WoS w w3 B (sZ g 0 (rl.length+1) c) (rl++[r]):=by
 refine⟨by rw[lA,lS,dM];simpa[tcc]using I,λq hq=>?_⟩;rcases cF.1 hq with hq|hq;exact h.el q hq;rw[cI.1 hq];exact K
theorem qGX{tl:List TbV}{j}(I:j<tl.length):woJ (tl.take (j+1))=woJ (tl.take j)++(if (tl.getD j qA).vs.length=0 then [tl.getD j qA] else []):=by
 unfold woJ;rw[tA,gE I,cZ,gdR I];show _++List.filter _ [tl[j]]=_;rw[List.filter_cons];by_cases e:tl[j].vs.length=0;rw[fE e,fD e,fE rfl];rfl;rw[fF e,fC e,fF Dd];rfl
theorem UQ w{vt tl}(h:ITs w vt tl)(hl:tl.length<=7)(d9:∀t∈tl,qW t=true):
 Cl 87 #[vt] w λe w'=>∃x0 x1 x2 us,e=.returned (.agg #[x0,x1,x2])/\TW w' w.1.size x0 x1 x2 us [] (yt tl) (zJ (yt tl).length)/\Bl w w':=by
 obtain⟨iT,hj,g7,g8,h3⟩:=info_parts Tryz.infoTb;have h9:Tryz.prog.follows .mixedOrders=true:=Kl;obtain⟨M,b1⟩:=Ex (w.alloc (.cells #[sn,sn,sn] 58));have V:Hh (Bl w M):=ay (by rw[b1];exact(bJ _ _).alloc (nR _) _);have e3:Hh (TX M w.1.size sn sn sn):=ay (by rw[b1];exact TX.made _ _ _ _);have KJ:Hh (∀W v rl,Bl M W->WoS w W M.1.size v rl->rl.map TbC.t=woJ tl->Cl 62 #[v,sn] W λe w'=>∃v us,e=.returned (.tuple #[v,ai (zK (woJ tl) [])])/\RQ w' W.1.size v us (yt tl)/\Bl W w'):=ay λW v rl hW hT he=>
  Qw W v _ (by rw[<-he];exact hT.its (bt V hW)) ⟨none,0,rfl,Or.inl rfl⟩ (bM (dH _ _) Oo) Ss λt ht=>ZT (d9 t (cK.1 ht).1)
 have h4:Hh (∀W v n,(∃a c,v=.slice a n c)->n<=100000->Cl 86 #[sn,v] W λe w'=>∃v0 v2,e=.returned (.agg #[v0,v,v2])/\w'.ownsRow W.1.size 3 1 v0 0 []/\w'.ownsRow W.1.size 3 1 v2 n (List.replicate n (ai 1))/\Ap' v0 v2/\Bl W w'):=ay λW v n hv hn=>yR W sn v [] n ⟨none,0,rfl,Or.inl rfl⟩ hv Ss hn;obtain⟨h5,ct,rfl,hc⟩:=h;have HC:Hh (∀j,j<tl.length->∃(b oo:Nat) (v0 v1 v2:Value),h5=some (az b oo)/\IT w v0 v1 v2 (tl.getD j qA).vs (tl.getD j qA).rows (tl.getD j qA).ws/\∀W,Bl M W->W.cell? (az b (oo+j*3))=some v0/\aC W b (oo+j*3+1) v1/\aC W b (oo+j*3+2) v2):=ay λj hj=>by
  rcases hc with h0|⟨b,oo,rfl,h⟩;omega;obtain⟨v0,v1,v2,c0,c1,c2,hI⟩:=h j hj;exact⟨b,oo,v0,v1,v2,rfl,hI,λW hW=>⟨qF (bt V hW) c0,qF (bt V hW) c1,qF (bt V hW) c2⟩⟩
 have c9:Hh (∀j,j<tl.length->woJ (tl.take (j+1))=woJ (tl.take j)++(if (tl.getD j qA).vs.length=0 then [tl.getD j qA] else [])):=ay λj hj=>qGX hj;have e4:Hh (∀j,(woJ (tl.take j)).length<=j):=ay λj=>bM (dH _ _) (by rw[bZ];omega);have e5:Hh (woJ (tl.take 0)=[]):=ay rfl;have d3:Hh (woJ (tl.take tl.length)=woJ tl):=ay (by rw[tL]);have h6:Hh ((yt tl).length<=10000):=ay y8.1;obtain⟨n,hn⟩:=Ex tl.length;rw[<-hn]at hl HC c9 d3 |-;clear hn hc d9;generalize zK (woJ tl) []=BV,hBR:yt tl=BR at *;clear hBR;go_enter func87,ntmps87;go_upto_region 1 with fail;rw[<-b1];clear b1;go_wp2;go_loopw [3,10] (λu t wr=>∃(j:Nat) (vp:Value),j<=n/\t=ai j/\vp=u/\Hh (∃rl,Bl M wr/\WoS w wr M.1.size vp rl/\rl.map TbC.t=woJ (tl.take j))) (λ_ t _=>n-(intOf t).toNat);exact⟨0,_,nZ _,rfl,rfl,ay ⟨[],bJ _ _,⟨oN _ _ _ _,λt ht=>by simp at ht⟩,by rw[e5.o];rfl⟩⟩;obtain⟨j,vp,i0,rfl,rfl,HT⟩:=hrel;obtain⟨rl,hB,hT,hE⟩:=HT.o;have HB:=ay hB;have K:=ay hT;have HE:=ay hE;clear HT hB hT hE;by_cases e6:j<n
 .have i1:=aV e6;obtain⟨bb,oo,v0,v1,v2,ea,hI,e7⟩:=HC j e6;subst ea;obtain⟨c0,c1,c2⟩:=e7 _ HB;have a3:=ay (c9 j e6);generalize tl.getD j qA=tb at *;have HI:=ay hI;obtain⟨W3,a4⟩:=Ex (wr.alloc (.cells #[v0,v1,v2] 58));have e9:Bl wr W3:=by rw[a4];exact(bJ _ _).alloc (nR _) _
  have a5:Hh (TX W3 wr.1.size v0 v1 v2):=ay (by rw[a4];exact TX.made _ _ _ _);have a6:=ay e9;obtain⟨a0,k0,e0,-⟩:=hI.vs;obtain⟨a1,k1,e1,-⟩:=hI.rows;obtain⟨a2,k2,e2,-⟩:=hI.ws;subst e0 e1 e2;clear hI e7 e9;obtain⟨l0,hl0⟩:=Ex tb.vs.length;rw[<-hl0]at a3 HI a5 a4 c0;clear hl0;go_upto_region 5 with fail;rw[<-a4];clear a4 c0 c1 c2;have d0:=a5.o.c0;have d1:=a5.o.c1;have d2:=a5.o.c2;have i4:rl.length<=7:=by have h1:=congrArg List.length HE;rw[lM]at h1;have h2:=e4 j;omega
  have i5:=bM HB.o.size a6.o.size;by_cases hz:l0=0
  .rw[fE hz]at a3;subst hz;have d4:=ay (qB K.o.own a6);go_wp2_with (at_builtin;refine wpList_append_lies _ rfl _ _ 33 rfl _ 58 _ _ 3 _ underlying33 hj g7 g8 h3 rfl Dd vp _ _ rfl (d4.o.alloc _) (az _ 0) 1 1 _ rfl rfl (uT _ _ _ _ _) (λu hu=>by simp at hu;rcases hu with rfl|rfl|rfl <;> rfl) Dd Um Oo Sy _ rfl ?_;intro g9 h7 w9 a7 O f7 f8);have HN:Hh (∃rl',Bl M w9/\WoS w w9 M.1.size (sZ g9 0 (rl.length+1) h7) rl'/\rl'.map TbC.t=woJ (tl.take (j+1))):=ay ⟨_,(x8 (bt HB a6) _).grown O Sy (λq hq=>(d4.o.lt q hq).1),K.o.push (r:=⟨.slice a0 0 k0,.slice a1 tb.rows.length k1,.slice a2 tb.ws.length k2,tb⟩) HI a7,by rw[mA,HE.o,a3.o];rfl⟩;clear a7 O f7 f8 d4 K HE a3 HI d0 d1 d2 a5;go_wp2;go_roundw;exact⟨j+1,_,Oo,Gg,rfl,HN⟩;exact Im
  rw[fF hz,dU]at a3;have i2:((l0:Int) == 0)=false:=Sy;have i3:¬((l0:Int)=0):=Oo;go_wp2;go_roundw;exact⟨j+1,_,Oo,Gg,rfl,ay ⟨rl,bt HB a6,⟨qB K.o.own a6,K.o.el⟩,by rw[a3.o];exact HE⟩⟩;exact Im
 obtain rfl:j=n:=Oo;have i1:=aY j;have f9:=ay (KJ _ _ _ HB K (HE.o.trans d3));have HX:=ay (e3.o.below HB);obtain⟨av,cv,ev⟩:=qG K.o.own;subst ev;clear KJ K HE HC c9 e4 d3 e5 e3;go_upto_region 9 with (go_at_call 62;apply f9.o.mono;rintro e w8 ⟨v8,d5,rfl,d6,b7⟩;obtain⟨a8,k8,e8⟩:=d6.sl;subst e8);have a9:=ay d6;have g4:=ay (HX.o.below b7);have g5:=ay (bt HB b7);have i6:=g5.o.size;have g6:=b7.size;have hs1:=bM V.o.size HB.o.size;clear d6 b7 f9 HX;have d7:=ay (h4 w8 (.slice a8 BR.length k8) _ ⟨_,_,rfl⟩ (O1 h6.o));obtain⟨nr,d8⟩:=Ex BR.length;have h8:=ay d8;rw[<-d8]at d7 a9 |-;clear d8;go_wp2_with (go_at_call 86;apply d7.o.mono;rintro e w9 ⟨v0,v2,rfl,b8,b9,hap,c7⟩;obtain⟨q0,z0,e0⟩:=qG b8;obtain⟨q2,z2,e2⟩:=qG b9;subst e0 e2;have I:=g4.o.below c7;have t0:=I.c0;have t1:=I.c1;have t2:=I.c2;have f0:=I.free 0;have f1:=I.free 1;have f2:=I.free 2);have c8:Hh (∀y0 y1 y2,TW (((sC w9 w.1.size 0 y0).setCell (az w.1.size 1) y1).setCell (az w.1.size 2) y2) w.1.size (.slice q0 0 z0) (.slice a8 nr k8) (.slice q2 nr z2) d5 [] BR (zJ BR.length)/\Bl w (((sC w9 w.1.size 0 y0).setCell (az w.1.size 1) y1).setCell (az w.1.size 2) y2)):=ay λy0 y1 y2=>by
  have hT:TQ w9 w.1.size (.slice q0 0 z0) (.slice a8 nr k8) (.slice q2 nr z2) d5 [] BR (zJ BR.length):=by
   refine⟨?_,(a9.o.below c7).base hs1,?_,hap,λi hi g h1 h2=>?_,λi hi g h1 h2=>?_⟩;exact qE b8 (bM hs1 g6);rw[uv,Zz,<-h8.o];exact qE b9 (bM hs1 g6);have:=((a9.o.each i hi).lt g h1).2;have:=(b8.lt g h2).1;omega;have:=((a9.o.each i hi).lt g h1).2;have:=(b9.lt g h2).1;omega
  exact⟨(((hT.set I.typ).set (qU I.typ)).set (qU (qU I.typ))).tw,(((bt (bt V g5) c7).setCell (nR _) _).setCell (nR _) _).setCell (nR _) _⟩
 clear g4 a9 b8 b9 I d7 c7;refine bodyPost_ret (v:=.agg #[.slice q0 0 z0,.slice a8 nr k8,.slice q2 nr z2]) (by simp[results,results87,go_sem,t0,t1,t2]) rfl ?_;exact⟨_,_,_,d5,rfl,(c8 _ _ _).1,(c8 _ _ _).2⟩
end Go.Proofs.YtnpgdnaeghilhaaGreat
